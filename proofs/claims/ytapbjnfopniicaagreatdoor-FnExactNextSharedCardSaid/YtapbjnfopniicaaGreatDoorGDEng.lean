
/- DWaiter, DChan, DItem, DGor, DMutex, DEng, merged for claims. -/

import Derived.Test.YtapbjnfopniicaaGreatDoorDInt

import Derived.Test.YtapbjnfopniicaaGreatDoorTail

namespace Go.Proofs.YtapbjnfopniicaaGreatDoor
set_option linter.unusedSimpArgs false
set_option linter.unusedVariables false
open Go.RowKit

structure DWaiter where
  fG : Int
  fCase : Int
  fVal : Int
/-- How it lies: in its cells alone. -/
def layWaiter : Lay DWaiter := Lay.flat 3 (fun x => [.int .i64 x.fG, .int .i64 x.fCase, .int .i64 x.fVal]) (fun x => (Lit.int .i64 x.fG).wf = true ∧ (Lit.int .i64 x.fCase).wf = true ∧ (Lit.int .i64 x.fVal).wf = true) (fun _ => rfl)
end Go.Proofs.YtapbjnfopniicaaGreatDoor

namespace Go.Proofs.YtapbjnfopniicaaGreatDoor
set_option linter.unusedSimpArgs false
set_option linter.unusedVariables false
open Go.RowKit

structure DChan where
  fCap : Int
  fBuf : List Int
  fSends : List DWaiter
  fRecvs : List DWaiter
  fClosed : Bool
/-- How much it holds. -/
def szChan (x : DChan) : Nat := x.fBuf.length + x.fSends.length + x.fRecvs.length

end Go.Proofs.YtapbjnfopniicaaGreatDoor

namespace Go.Proofs.YtapbjnfopniicaaGreatDoor
set_option linter.unusedSimpArgs false
set_option linter.unusedVariables false
open Go.RowKit

structure DItem where
  fKind : Int
  fObj : Int
  fVal : Int
  fOk : Bool
/-- How it lies: in its cells alone. -/
def layItem : Lay DItem := Lay.flat 4 (fun x => [.int .i64 x.fKind, .int .i64 x.fObj, .int .i64 x.fVal, .bool x.fOk]) (fun x => (Lit.int .i64 x.fKind).wf = true ∧ (Lit.int .i64 x.fObj).wf = true ∧ (Lit.int .i64 x.fVal).wf = true) (fun _ => rfl)
theorem opensItem : Opens Tryz.prog 98 layItem := by
  refine Opens.to (opens_struct Tryz.underlying98 (by kernel_rfl) (.cons rfl (opens_int Tryz.underlying3 (by kernel_rfl)) (.cons rfl (opens_int Tryz.underlying3 (by kernel_rfl)) (.cons rfl (opens_int Tryz.underlying3 (by kernel_rfl)) (.one rfl (opens_bool Tryz.underlying4 (by kernel_rfl))))))) rfl fun w hi a vs h => ?_
  obtain ⟨a0, a1, a2, a3⟩ := a
  obtain ⟨_, _, rfl, s0, ⟨_, _, rfl, s1, ⟨_, _, rfl, s2, s3⟩⟩⟩ := h
  obtain ⟨rfl, h0⟩ := s0
  obtain ⟨rfl, h1⟩ := s1
  obtain ⟨rfl, h2⟩ := s2
  obtain ⟨rfl, h3⟩ := s3
  exact ⟨⟨a0, a1, a2, a3⟩, rfl, h0, h1, h2⟩

theorem szItemS_any {w : World} {A : Option Addr} {n c l : Nat} (hl : l ≤ 1048576) (hn : n ≤ maxLen) :
    Calls Tryz.prog 25 #[.slice A n c, .int .i64 (l : Int)] w (SzPost w l n) := by
  unfold maxLen at hn
  by_cases h : n ≤ l
  · have hs : Hid ((l : Int) - (n : Int) = ((l - n : Nat) : Int)) := Lib.hid (by omega)
    go_enter Tryz.func25, Tryz.ntmps25
    go_wp2
    go_ret
    exact ⟨Below.refl _ _, .inl ⟨h, by rw [hs.out]; rfl⟩⟩
  · have h' : l < n := by omega
    go_enter Tryz.func25, Tryz.ntmps25
    go_wp2
    go_ret
    exact ⟨Below.refl _ _, .inr ⟨h', rfl⟩⟩

set_option maxRecDepth 100000 in
set_option maxHeartbeats 1000000 in
theorem eqItem_same {w : World} (x : DItem) : Calls Tryz.prog 61 #[.agg #[.int .i64 x.fKind, .int .i64 x.fObj, .int .i64 x.fVal, .bool x.fOk], .agg #[.int .i64 x.fKind, .int .i64 x.fObj, .int .i64 x.fVal, .bool x.fOk]] w (SaysTrue w) := by
  have hb0 : Below w.heap.size w ((w.alloc (.cells #[.int .i64 x.fKind, .int .i64 x.fObj, .int .i64 x.fVal, .bool x.fOk] 96)).alloc (.cells #[.int .i64 x.fKind, .int .i64 x.fObj, .int .i64 x.fVal, .bool x.fOk] 96)) := ((Below.refl _ _).alloc (Nat.le_refl _) _).alloc (by simp) _
  go_enter Tryz.func61, Tryz.ntmps61
  go_wp2
  repeat (go_quiet (fail); go_wp2)
  go_ret
  exact ⟨rfl, by first | exact hb0 | exact below_drawn hb0 _ | go_grown⟩

set_option maxRecDepth 100000 in
set_option maxHeartbeats 1000000 in
theorem eqItemS_same {A A' : Option Addr} {n c c' hi hi' : Nat} {xs : List DItem} {w : World} (h : SeenR layItem w hi A n xs) (h' : SeenR layItem w hi' A' n xs) (hh : hi ≤ w.heap.size) (hh' : hi' ≤ w.heap.size) (hn : n ≤ 1048580) :
    Calls Tryz.prog 33 #[.slice A n c, .slice A' n c'] w (SaysTrue w) := by
  go_enter Tryz.func33, Tryz.ntmps33
  go_wp2
  go_loopw [5] (fun i wr => ∃ k : Nat, k ≤ n ∧ i = .int .i64 k ∧ Below w.heap.size w wr) (fun i _ => n - (intOf i).toNat)
  case atStart => exact ⟨0, Nat.zero_le _, rfl, Below.refl _ _⟩
  case round =>
    obtain ⟨k, hk, rfl, hb⟩ := hrel
    have z := hb.size
    by_cases hlt : k < n
    · obtain ⟨hx, g, o, vs, rfl, hg, ⟨rfl, hw⟩, hc⟩ := (h.below hb hh).at_ hlt
      obtain ⟨hx', g', o', vs', rfl, hg', ⟨rfl, hw'⟩, hc'⟩ := (h'.below hb hh').at_ hlt
      have cc0 := hc 0 _ rfl
      have dd0 := hc' 0 _ rfl
      have cc1 := hc 1 _ rfl
      have dd1 := hc' 1 _ rfl
      have cc2 := hc 2 _ rfl
      have dd2 := hc' 2 _ rfl
      have cc3 := hc 3 _ rfl
      have dd3 := hc' 3 _ rfl
      simp only [show layItem.size = 4 from rfl, ← Nat.add_assoc, Nat.add_zero, Nat.mul_one] at cc0 cc1 cc2 cc3 dd0 dd1 dd2 dd3
      clear hc hc' hw hw'
      generalize xs[k] = x at *
      have HE := Lib.hid (fun W : World => eqItem_same (w := W) x)
      have hi0 : (0 : Int) ≤ (k : Int) := by omega
      have hi1 : (k : Int) < (n : Int) := by omega
      go_wp2_with fail
      go_region_with (go_at_call 61; refine (HE.out _).mono ?_; rintro e w1 ⟨rfl, hb1⟩)
      all_goals
        have hbb : Below w.heap.size w w1 := hb.drew.trans (hb1.mono z)
        clear hb1 HE cc0 cc1 cc2 cc3 dd0 dd1 dd2 dd3
        go_wp2_with fail
        go_roundw
        case rel => exact ⟨k + 1, by omega, by go_num, hbb⟩
        case measure => simp [intOf]; omega
    · go_wp2
      go_ret
      exact ⟨rfl, hb⟩

set_option maxRecDepth 100000 in
set_option maxHeartbeats 1000000 in
theorem toItem_any {w : World} {hi : Nat} {x : DItem} {vs : List Value} (h : layItem.see w hi x vs) :
    Calls Tryz.prog 60 #[.agg vs.toArray] w (MadeL layItem w x) := by
  obtain ⟨rfl, hw⟩ := h
  have HW := Lib.hid hw
  clear hw
  show Calls Tryz.prog 60 #[.agg #[.int .i64 x.fKind, .int .i64 x.fObj, .int .i64 x.fVal, .bool x.fOk]] w (MadeL layItem w x)
  go_enter Tryz.func60, Tryz.ntmps60
  go_wp2
  refine bodyPost_ret (v := .agg #[.int .i64 x.fKind, .int .i64 x.fObj, .int .i64 x.fVal, .bool x.fOk]) (by simp [results, Tryz.results60, go_sem]) rfl ?_
  exact ⟨_, rfl, ⟨rfl, HW.out⟩, by go_grown⟩

theorem infoItem : (Tryz.prog.info? 96).map (fun i => (i.zero, i.size, i.bytes)) = some (some (.agg #[.int .i64 0, .int .i64 0, .int .i64 0, .bool false]), 4, 32) := by kernel_rfl

set_option maxRecDepth 100000 in
set_option maxHeartbeats 1000000 in
theorem toItemS_any {w : World} {A : Option Addr} {n c hi : Nat} {xs : List DItem} (h : SeenR layItem w hi A n xs) (hhi : hi ≤ w.heap.size) (hn : n ≤ 1048576) :
    Calls Tryz.prog 31 #[.slice A n c] w (MadeR layItem 96 w n xs) := by
  obtain ⟨i0, hi0, hz0, hz1, hz2⟩ := info_parts infoItem
  have hmk := fun W : World => run_make (P := Tryz.prog) W 32 96 i0 _ Tryz.underlying32 hi0 hz0 .i64 .i64 n n (by omega) (by omega) (by rw [hz2]; omega) (by omega)
  simp only [hz1, Int.toNat_natCast] at hmk
  have HL := Lib.hid h.1
  clear hi0 hz0 hz1 hz2
  go_enter Tryz.func31, Tryz.ntmps31
  go_wp2
  clear hmk
  go_loopw [4] (fun i wr => ∃ k : Nat, k ≤ n ∧ i = .int .i64 k ∧ Part layItem 96 wr w.heap.size n xs k wr.heap.size ∧ Below w.heap.size w wr) (fun i _ => n - (intOf i).toNat)
  case atStart =>
    refine ⟨0, Nat.zero_le _, rfl, ?_, (Below.refl _ _).alloc (Nat.le_refl _) _⟩
    have hm := Own.made (size := 4) (e := 96) w (madeCells #[.int .i64 0, .int .i64 0, .int .i64 0, .bool false] (n * 4)) n n (by simp only [maxLen]; omega) (by simp [size_madeCells]) (Nat.le_refl _)
    exact Part.start HL.out hm (by simp)
  case round =>
    obtain ⟨k, hk, rfl, hpart, hb⟩ := hrel
    have z := hb.size
    by_cases hlt : k < n
    · obtain ⟨hx, g, o, vs, rfl, hg, hsee, hcell⟩ := (h.below hb hhi).at_ hlt
      have hdk := Lib.hid (List.getElem?_eq_getElem hx)
      generalize xs[k] = x at *
      have HE := Lib.hid (fun (W : World) (hW : Below wr.heap.size wr W) => toItem_any (w := W) (layItem.keep hsee fun k hk => hW.block k (by omega)))
      obtain ⟨rfl, hw⟩ := hsee
      have cc0 := hcell 0 _ rfl
      have cc1 := hcell 1 _ rfl
      have cc2 := hcell 2 _ rfl
      have cc3 := hcell 3 _ rfl
      simp only [show layItem.size = 4 from rfl, ← Nat.add_assoc, Nat.add_zero, Nat.mul_one] at cc0 cc1 cc2 cc3
      clear hcell
      go_wp2_with fail
      refine (HE.out _ (Below.refl _ _)).mono ?_
      rintro e w1 ⟨us, rfl, own1, hb1⟩
      have hus := layItem.len (layItem.seen own1 (hi := w1.heap.size) fun g hg => hg.2)
      have hsu := layItem.seen own1 (hi := w1.heap.size) fun g hg => hg.2
      obtain ⟨rfl, hwu⟩ := hsu
      have hp1 := hpart.below hb1
      obtain ⟨⟨v0, ho0⟩, hf0⟩ := hp1.room hlt 0 (by decide)
      obtain ⟨⟨v1, ho1⟩, hf1⟩ := hp1.room hlt 1 (by decide)
      obtain ⟨⟨v2, ho2⟩, hf2⟩ := hp1.room hlt 2 (by decide)
      obtain ⟨⟨v3, ho3⟩, hf3⟩ := hp1.room hlt 3 (by decide)
      have hp2 := hp1.step hdk.out hus own1 (fun g hg => hg)
      have hb2 : Below w.heap.size w w1 := hb.trans (hb1.mono z)
      simp only [show layItem.size = 4 from rfl, ← Nat.add_assoc, Nat.add_zero, Nat.mul_one] at ho0 hf0 ho1 hf1 ho2 hf2 ho3 hf3 hp2
      clear hpart hp1 hb1 HE own1 hus cc0 cc1 cc2 cc3
      go_wp2_with fail
      go_roundw
      case rel => exact ⟨k + 1, by omega, by go_num, by simpa [putCells] using hp2, by go_grown⟩
      case measure => simp [intOf]; omega
    · go_wp2_with fail
      go_ret
      obtain rfl : k = n := by omega
      exact ⟨_, _, rfl, hpart.done, hb⟩
end Go.Proofs.YtapbjnfopniicaaGreatDoor

namespace Go.Proofs.YtapbjnfopniicaaGreatDoor
set_option linter.unusedSimpArgs false
set_option linter.unusedVariables false
open Go.RowKit

structure DGor where
  fProc : Int
  fPc : Int
  fRegs : List Int
  fState : Int
  fTrace : List DItem
/-- How it lies: its slices in blocks of their own. -/
def layGor : Lay DGor := (Lay.int.pair (Lay.int.pair ((Lay.int.tail 3).pair (Lay.int.pair (layItem.tail 96))))).via fun x => (x.fProc, (x.fPc, (x.fRegs, (x.fState, x.fTrace))))
theorem opensGor : Opens Tryz.prog 29 layGor :=
  opens_via _ (fun a => ⟨⟨a.1, a.2.1, a.2.2.1, a.2.2.2.1, a.2.2.2.2⟩, rfl⟩) (opens_struct Tryz.underlying29 (by kernel_rfl) (.cons rfl (opens_int Tryz.underlying3 (by kernel_rfl)) (.cons rfl (opens_int Tryz.underlying3 (by kernel_rfl)) (.cons rfl (opens_tail Tryz.underlying22 (by kernel_rfl) (by decide) (opens_int Tryz.underlying3 (by kernel_rfl))) (.cons rfl (opens_int Tryz.underlying3 (by kernel_rfl)) (.one rfl (opens_tail Tryz.underlying27 (by kernel_rfl) (by decide) opensItem)))))))
theorem seeGor {w : World} {hi : Nat} {x : DGor} {vs : List Value} (h : layGor.see w hi x vs) : ∃ A2 n2 c2 A4 n4 c4, vs = [.int .i64 x.fProc, .int .i64 x.fPc, .slice A2 n2 c2, .int .i64 x.fState, .slice A4 n4 c4] ∧ (Lit.int .i64 x.fProc).wf = true ∧ (Lit.int .i64 x.fPc).wf = true ∧ (n2 ≤ c2 ∧ c2 ≤ maxLen ∧ SeenR Lay.int w hi A2 n2 x.fRegs) ∧ (Lit.int .i64 x.fState).wf = true ∧ (n4 ≤ c4 ∧ c4 ≤ maxLen ∧ SeenR layItem w hi A4 n4 x.fTrace) := by
  obtain ⟨_, _, rfl, s0, ⟨_, _, rfl, s1, ⟨_, _, rfl, s2, ⟨_, _, rfl, s3, s4⟩⟩⟩⟩ := h
  obtain ⟨rfl, h0⟩ := s0
  obtain ⟨rfl, h1⟩ := s1
  obtain ⟨A2, n2, c2, rfl, h2⟩ := s2
  obtain ⟨rfl, h3⟩ := s3
  obtain ⟨A4, n4, c4, rfl, h4⟩ := s4
  exact ⟨A2, n2, c2, A4, n4, c4, rfl, h0, h1, h2, h3, h4⟩
theorem ownGor {w : World} {F : Nat → Prop} {x : DGor} (h0 : (Lit.int .i64 x.fProc).wf = true) (h1 : (Lit.int .i64 x.fPc).wf = true) {A2 : Option Addr} {n2 c2 : Nat} {F2 : Nat → Prop} (h2 : TailR Lay.int 3 w F2 A2 n2 c2 x.fRegs) (h3 : (Lit.int .i64 x.fState).wf = true) {A4 : Option Addr} {n4 c4 : Nat} {F4 : Nat → Prop} (h4 : TailR layItem 96 w F4 A4 n4 c4 x.fTrace) (k2 : ∀ g, F2 g → F g) (k4 : ∀ g, F4 g → F g) (d24 : ∀ g, F2 g → ¬ F4 g) : layGor.own w F x [.int .i64 x.fProc, .int .i64 x.fPc, .slice A2 n2 c2, .int .i64 x.fState, .slice A4 n4 c4] := by
  exact ⟨_, _, (fun _ => False), (fun g => F2 g ∨ F4 g), rfl, ⟨rfl, h0⟩, ⟨_, _, (fun _ => False), (fun g => F2 g ∨ F4 g), rfl, ⟨rfl, h1⟩, ⟨_, _, F2, (fun g => F4 g), rfl, ⟨A2, n2, c2, rfl, h2⟩, ⟨_, _, (fun _ => False), (fun g => F4 g), rfl, ⟨rfl, h3⟩, ⟨A4, n4, c4, rfl, h4⟩, (fun g h => h.elim), (fun g h => h), (fun g h => h.elim)⟩, (fun g h => Or.inl h), (fun g h => Or.inr h), (fun g h h2 => by first | exact d24 g h h2)⟩, (fun g h => h.elim), (fun g h => h), (fun g h => h.elim)⟩, (fun _ h => h.elim), (fun g h => by rcases h with h | h <;> first | exact k2 g h | exact k4 g h), (fun g h => h.elim)⟩

/-- How much it holds. -/
def szGor (x : DGor) : Nat := x.fRegs.length + x.fTrace.length

set_option maxRecDepth 100000 in
set_option maxHeartbeats 1000000 in
theorem szGor_any {w : World} {hi l : Nat} {x : DGor} {vs : List Value} (h : layGor.see w hi x vs) (hhi : hi ≤ w.heap.size) (hl : l ≤ 1048576) :
    Calls Tryz.prog 7 #[.agg vs.toArray, .int .i64 (l : Int)] w (SzPost w l (szGor x)) := by
  obtain ⟨A2, n2, c2, A4, n4, c4, rfl, hw0, hw1, ⟨hc2, hm2, s2⟩, hw3, ⟨hc4, hm4, s4⟩⟩ := seeGor h
  have hb0 : Below w.heap.size w (w.alloc (.cells #[.int .i64 x.fProc, .int .i64 x.fPc, .slice A2 n2 c2, .int .i64 x.fState, .slice A4 n4 c4] 29)) := (Below.refl _ _).alloc (Nat.le_refl _) _
  have hz0 : w.heap.size + 1 ≤ (w.alloc (.cells #[.int .i64 x.fProc, .int .i64 x.fPc, .slice A2 n2 c2, .int .i64 x.fState, .slice A4 n4 c4] 29)).heap.size := by simp
  go_enter Tryz.func7, Tryz.ntmps7
  have L2 := Lib.hid s2.1
  go_wp2_with fail
  refine (szIntS_any (l := l) (by omega) (Nat.le_trans hc2 hm2)).mono ?_
  rintro e w1 ⟨hb1, hcase⟩
  have z1 := hb1.size
  obtain ⟨hcl1, hfz1⟩ := bcell hb1
  simp only [World.size_alloc] at z1
  have hl1a : w.heap.size < w1.heap.size := by omega
  have hB1 : Below w.heap.size w w1 := hb0.trans (hb1.mono (by simp))
  rcases hcase with ⟨h10, rfl⟩ | ⟨h10, rfl⟩
  · skip
    have L4 := Lib.hid s4.1
    go_wp2_with fail
    refine (szItemS_any (l := l - n2) (by omega) (Nat.le_trans hc4 hm4)).mono ?_
    rintro e w2 ⟨hb2, hcase⟩
    have z2 := hb2.size
    obtain ⟨hcl2, hfz2⟩ := bcell hb2
    have hl2a : w.heap.size < w2.heap.size := by omega
    have hB2 : Below w.heap.size w w2 := hB1.trans (hb2.mono (by omega))
    rcases hcase with ⟨h11, rfl⟩ | ⟨h11, rfl⟩
    · go_wp2_with fail
      go_ret
      exact ⟨hB2, .inl ⟨by unfold szGor; rw [L2.out]; rw [L4.out]; omega, by unfold szGor; rw [L2.out]; rw [L4.out]; go_num⟩⟩
    · go_wp2_with fail
      go_ret
      exact ⟨hB2, .inr ⟨by unfold szGor; rw [L2.out]; rw [L4.out]; omega, rfl⟩⟩
  · go_wp2_with fail
    go_ret
    exact ⟨hB1, .inr ⟨by unfold szGor; rw [L2.out]; omega, rfl⟩⟩

set_option maxRecDepth 100000 in
set_option maxHeartbeats 1000000 in
theorem eqGor_same {w : World} {hi hi' : Nat} {x : DGor} {vs vs' : List Value} (h : layGor.see w hi x vs) (h' : layGor.see w hi' x vs') (hhi : hi ≤ w.heap.size) (hhi' : hi' ≤ w.heap.size) (hn : szGor x ≤ 1048580) :
    Calls Tryz.prog 12 #[.agg vs.toArray, .agg vs'.toArray] w (SaysTrue w) := by
  obtain ⟨A2, n2, c2, A4, n4, c4, rfl, hw0, hw1, ⟨hc2, hm2, s2⟩, hw3, ⟨hc4, hm4, s4⟩⟩ := seeGor h
  obtain ⟨A2', n2', c2', A4', n4', c4', rfl, hw0', hw1', ⟨hc2', hm2', s2'⟩, hw3', ⟨hc4', hm4', s4'⟩⟩ := seeGor h'
  obtain rfl : n2 = n2' := s2.1.symm.trans s2'.1
  have L2 := Lib.hid s2.1
  obtain rfl : n4 = n4' := s4.1.symm.trans s4'.1
  have L4 := Lib.hid s4.1
  have hn0 := hn
  unfold szGor at hn0
  rw [L2.out] at hn0
  rw [L4.out] at hn0
  have hb0 : Below w.heap.size w ((w.alloc (.cells #[.int .i64 x.fProc, .int .i64 x.fPc, .slice A2 n2 c2, .int .i64 x.fState, .slice A4 n4 c4] 34)).alloc (.cells #[.int .i64 x.fProc, .int .i64 x.fPc, .slice A2' n2 c2', .int .i64 x.fState, .slice A4' n4 c4'] 34)) := ((Below.refl _ _).alloc (Nat.le_refl _) _).alloc (by simp) _
  go_enter Tryz.func12, Tryz.ntmps12
  go_wp2_with fail
  (try (go_quiet (fail)))
  go_wp2_with fail
  (try (go_quiet (fail)))
  go_wp2_with fail
  refine (eqIntS_same (s2.below hb0 hhi) (s2'.below hb0 hhi')  (by omega)).mono ?_
  rintro e w1 ⟨rfl, hb1⟩
  have z1 := hb1.size
  obtain ⟨hcl1, hfz1⟩ := bcell hb1
  have hB1 : Below w.heap.size w w1 := hb0.trans (hb1.mono (by simp; omega))
  simp only [World.size_alloc] at z1
  have hl1a : w.heap.size < w1.heap.size := by omega
  have hl1b : w.heap.size + 1 < w1.heap.size := by omega
  go_wp2_with fail
  (try (go_quiet (fail)))
  go_wp2_with fail
  refine (eqItemS_same (s4.below hB1 hhi) (s4'.below hB1 hhi') (by have := hB1.size; omega) (by have := hB1.size; omega) (by omega)).mono ?_
  rintro e w2 ⟨rfl, hb2⟩
  have z2 := hb2.size
  obtain ⟨hcl2, hfz2⟩ := bcell hb2
  have hB2 : Below w.heap.size w w2 := hB1.trans (hb2.mono (by omega))
  have hl2a : w.heap.size < w2.heap.size := by omega
  have hl2b : w.heap.size + 1 < w2.heap.size := by omega
  go_wp2_with fail
  go_ret
  exact ⟨rfl, by first | exact hB2 | exact below_drawn hB2 _⟩

set_option maxRecDepth 100000 in
set_option maxHeartbeats 2000000 in
theorem toGor_any {w : World} {hi : Nat} {x : DGor} {vs : List Value} (h : layGor.see w hi x vs) (hhi : hi ≤ w.heap.size) (hn : szGor x ≤ 1048576) :
    Calls Tryz.prog 10 #[.agg vs.toArray] w (MadeL layGor w x) := by
  obtain ⟨A2, n2, c2, A4, n4, c4, rfl, hw0, hw1, ⟨hc2, hm2, s2⟩, hw3, ⟨hc4, hm4, s4⟩⟩ := seeGor h
  have L2 := Lib.hid s2.1
  have L4 := Lib.hid s4.1
  have hn0 := hn
  unfold szGor at hn0
  rw [L2.out] at hn0
  rw [L4.out] at hn0
  have hb0 : Below w.heap.size w (((w.alloc (.cells #[.int .i64 x.fProc, .int .i64 x.fPc, .slice A2 n2 c2, .int .i64 x.fState, .slice A4 n4 c4] 29)).alloc (.cells #[.int .i64 0, .int .i64 0, .slice none 0 0, .int .i64 0, .slice none 0 0] 34)).alloc (.cells #[.int .i64 0, .int .i64 0, .slice none 0 0, .int .i64 0, .slice none 0 0] 34)) := by go_grown
  go_enter Tryz.func10, Tryz.ntmps10
  go_wp2_with fail
  refine (toIntS_any (s2.below (B := w.heap.size) ?_ hhi) ?_ (by omega)).mono ?_
  · go_grown
  · simp; omega
  rintro e w1 ⟨B2, e2, rfl, own1, hb1⟩
  have z1 := hb1.size
  simp only [World.size_alloc] at z1 own1
  have hB1 : Below w.heap.size w w1 := Below.trans (by go_grown) (hb1.mono (by simp; omega))
  obtain ⟨hcl1, hfz1⟩ := bcell hb1
  have hl1a : w.heap.size < w1.heap.size := by omega
  have hl1b : w.heap.size + 1 < w1.heap.size := by omega
  have hl1c : w.heap.size + 1 + 1 < w1.heap.size := by omega
  go_wp2_with fail
  refine (toItemS_any (s4.below (B := w.heap.size) ?_ hhi) ?_ (by omega)).mono ?_
  · repeat (refine Below.setCell ?_ (by dsimp only; omega) _)
    exact hB1
  · simp; omega
  rintro e w2 ⟨B4, e4, rfl, own2, hb2⟩
  have z2 := hb2.size
  simp only [World.size_setCell] at z2 own2
  have ht2 : Turned (w.heap.size + 1) (w.heap.size + 3) w1 w2 := by
    refine Turned.trans ?_ (Turned.of_below hb2 _ _)
    repeat (refine Turned.setCell ?_ (by simp) (by simp) _)
    exact Turned.refl _ _ _
  have hB2 : Below w.heap.size w w2 := hB1.trans (ht2.below (by omega) (by omega))
  replace own1 := own1.turned ht2 (fun g hg => .inl (by omega))
  obtain ⟨hcl2, hfz2⟩ := bcell hb2
  have hl2a : w.heap.size < w2.heap.size := by omega
  have hl2b : w.heap.size + 1 < w2.heap.size := by omega
  have hl2c : w.heap.size + 1 + 1 < w2.heap.size := by omega
  go_wp2_with fail
  refine bodyPost_ret (v := .agg #[.int .i64 x.fProc, .int .i64 x.fPc, .slice B2 n2 e2, .int .i64 x.fState, .slice B4 n4 e4]) (by simp [results, Tryz.results10, go_sem, hcl1, hl1a, hl1b, hl1c, hcl2, hl2a, hl2b, hl2c]) rfl ?_
  refine ⟨_, rfl, ?_, ?_⟩
  · refine ownGor (F := _) hw0 hw1 (TailR.of (OwnR.turned own1 (l := w.heap.size + 1) (r := w.heap.size + 3) ?t2 (fun g hg => .inl (by omega)))) hw3 (TailR.of (OwnR.turned own2 (l := w.heap.size + 1) (r := w.heap.size + 3) ?t4 (fun g hg => .inl (by omega)))) ?k2 ?k4 ?d24
    case t2 =>
      repeat (refine Turned.setCell ?_ (by simp) (by simp) _)
      exact Turned.refl _ _ _
    case t4 =>
      repeat (refine Turned.setCell ?_ (by simp) (by simp) _)
      exact Turned.refl _ _ _
    case k2 => intro g hg; simp only [World.size_setCell]; omega
    case k4 => intro g hg; simp only [World.size_setCell]; omega
    case d24 => intro g hg hg'; omega
  · repeat (refine Below.setCell ?_ (by dsimp only; omega) _)
    exact hB2

theorem infoGor : (Tryz.prog.info? 34).map (fun i => (i.zero, i.size, i.bytes)) = some (some (.agg #[.int .i64 0, .int .i64 0, .slice none 0 0, .int .i64 0, .slice none 0 0]), 5, 72) := by kernel_rfl

end Go.Proofs.YtapbjnfopniicaaGreatDoor

namespace Go.Proofs.YtapbjnfopniicaaGreatDoor
set_option linter.unusedSimpArgs false
set_option linter.unusedVariables false
open Go.RowKit

structure DMutex where
  fOwner : Int
  fWait : List Int
/-- How it lies: its slices in blocks of their own. -/
def layMutex : Lay DMutex := (Lay.int.pair (Lay.int.tail 3)).via fun x => (x.fOwner, x.fWait)
theorem seeMutex {w : World} {hi : Nat} {x : DMutex} {vs : List Value} (h : layMutex.see w hi x vs) : ∃ A1 n1 c1, vs = [.int .i64 x.fOwner, .slice A1 n1 c1] ∧ (Lit.int .i64 x.fOwner).wf = true ∧ (n1 ≤ c1 ∧ c1 ≤ maxLen ∧ SeenR Lay.int w hi A1 n1 x.fWait) := by
  obtain ⟨_, _, rfl, s0, s1⟩ := h
  obtain ⟨rfl, h0⟩ := s0
  obtain ⟨A1, n1, c1, rfl, h1⟩ := s1
  exact ⟨A1, n1, c1, rfl, h0, h1⟩
theorem ownMutex {w : World} {F : Nat → Prop} {x : DMutex} (h0 : (Lit.int .i64 x.fOwner).wf = true) {A1 : Option Addr} {n1 c1 : Nat} {F1 : Nat → Prop} (h1 : TailR Lay.int 3 w F1 A1 n1 c1 x.fWait) (k1 : ∀ g, F1 g → F g) : layMutex.own w F x [.int .i64 x.fOwner, .slice A1 n1 c1] := by
  exact ⟨_, _, (fun _ => False), (fun g => F1 g), rfl, ⟨rfl, h0⟩, ⟨A1, n1, c1, rfl, h1⟩, (fun _ h => h.elim), (fun g h => by first | exact k1 g h), (fun g h => h.elim)⟩

/-- How much it holds. -/
def szMutex (x : DMutex) : Nat := x.fWait.length

end Go.Proofs.YtapbjnfopniicaaGreatDoor

namespace Go.Proofs.YtapbjnfopniicaaGreatDoor
set_option linter.unusedSimpArgs false
set_option linter.unusedVariables false
open Go.RowKit

structure DEng where
  fGs : List DGor
  fChans : List DChan
  fMus : List DMutex
/-- How much it holds. -/
def szEng (x : DEng) : Nat := (x.fGs.length + (x.fGs.map szGor).sum) + (x.fChans.length + (x.fChans.map szChan).sum) + (x.fMus.length + (x.fMus.map szMutex).sum)

end Go.Proofs.YtapbjnfopniicaaGreatDoor
