
/- DCase, DSelect, DInstr, DProc, DProg, merged for claims. -/

import Derived.Test.YtghkdkagnibkgaaGreatDoorGBase

namespace Go.Proofs.YtghkdkagnibkgaaGreatDoor
set_option linter.unusedSimpArgs false
set_option linter.unusedVariables false
open Go.RowKit

structure DCase where
  fSend : Bool
  fChan : Int
  fReg : Int
  fOk : Int
  fTo : Int
/-- How it lies: in its cells alone. -/
def layCase : Lay DCase := Lay.flat 5 (fun x => [.bool x.fSend, .int .i64 x.fChan, .int .i64 x.fReg, .int .i64 x.fOk, .int .i64 x.fTo]) (fun x => (Lit.int .i64 x.fChan).wf = true ∧ (Lit.int .i64 x.fReg).wf = true ∧ (Lit.int .i64 x.fOk).wf = true ∧ (Lit.int .i64 x.fTo).wf = true) (fun _ => rfl)
theorem opensCase : Opens Tryz.prog 178 layCase := by
  refine Opens.to (opens_struct Tryz.underlying178 (by kernel_rfl) (.cons rfl (opens_bool Tryz.underlying4 (by kernel_rfl)) (.cons rfl (opens_int Tryz.underlying3 (by kernel_rfl)) (.cons rfl (opens_int Tryz.underlying3 (by kernel_rfl)) (.cons rfl (opens_int Tryz.underlying3 (by kernel_rfl)) (.one rfl (opens_int Tryz.underlying3 (by kernel_rfl)))))))) rfl fun w hi a vs h => ?_
  obtain ⟨a0, a1, a2, a3, a4⟩ := a
  obtain ⟨_, _, rfl, s0, ⟨_, _, rfl, s1, ⟨_, _, rfl, s2, ⟨_, _, rfl, s3, s4⟩⟩⟩⟩ := h
  obtain ⟨rfl, h0⟩ := s0
  obtain ⟨rfl, h1⟩ := s1
  obtain ⟨rfl, h2⟩ := s2
  obtain ⟨rfl, h3⟩ := s3
  obtain ⟨rfl, h4⟩ := s4
  exact ⟨⟨a0, a1, a2, a3, a4⟩, rfl, h1, h2, h3, h4⟩

theorem szCaseS_any {w : World} {A : Option Addr} {n c l : Nat} (hl : l ≤ 1048576) (hn : n ≤ maxLen) :
    Calls Tryz.prog 83 #[.slice A n c, .int .i64 (l : Int)] w (SzPost w l n) := by
  unfold maxLen at hn
  by_cases h : n ≤ l
  · have hs : Hid ((l : Int) - (n : Int) = ((l - n : Nat) : Int)) := Lib.hid (by omega)
    go_enter Tryz.func83, Tryz.ntmps83
    go_wp2
    go_ret
    exact ⟨Below.refl _ _, .inl ⟨h, by rw [hs.out]; rfl⟩⟩
  · have h' : l < n := by omega
    go_enter Tryz.func83, Tryz.ntmps83
    go_wp2
    go_ret
    exact ⟨Below.refl _ _, .inr ⟨h', rfl⟩⟩

set_option maxRecDepth 100000 in
set_option maxHeartbeats 1000000 in
theorem eqCase_same {w : World} (x : DCase) : Calls Tryz.prog 140 #[.agg #[.bool x.fSend, .int .i64 x.fChan, .int .i64 x.fReg, .int .i64 x.fOk, .int .i64 x.fTo], .agg #[.bool x.fSend, .int .i64 x.fChan, .int .i64 x.fReg, .int .i64 x.fOk, .int .i64 x.fTo]] w (SaysTrue w) := by
  have hb0 : Below w.heap.size w ((w.alloc (.cells #[.bool x.fSend, .int .i64 x.fChan, .int .i64 x.fReg, .int .i64 x.fOk, .int .i64 x.fTo] 89)).alloc (.cells #[.bool x.fSend, .int .i64 x.fChan, .int .i64 x.fReg, .int .i64 x.fOk, .int .i64 x.fTo] 89)) := ((Below.refl _ _).alloc (Nat.le_refl _) _).alloc (by simp) _
  go_enter Tryz.func140, Tryz.ntmps140
  go_wp2
  repeat (go_quiet (fail); go_wp2)
  go_ret
  exact ⟨rfl, by first | exact hb0 | exact below_drawn hb0 _ | go_grown⟩

set_option maxRecDepth 100000 in
set_option maxHeartbeats 1000000 in
theorem eqCaseS_same {A A' : Option Addr} {n c c' hi hi' : Nat} {xs : List DCase} {w : World} (h : SeenR layCase w hi A n xs) (h' : SeenR layCase w hi' A' n xs) (hh : hi ≤ w.heap.size) (hh' : hi' ≤ w.heap.size) (hn : n ≤ 1048576) :
    Calls Tryz.prog 106 #[.slice A n c, .slice A' n c'] w (SaysTrue w) := by
  go_enter Tryz.func106, Tryz.ntmps106
  go_wp2
  go_loopw [5] (fun i wr => ∃ k : Nat, k ≤ n ∧ i = .int .i64 k ∧ Below w.heap.size w wr) (fun i _ => n - (intOf i).toNat)
  case atStart => exact ⟨0, Nat.zero_le _, rfl, Below.refl _ _⟩
  case round =>
    obtain ⟨k, hk, rfl, hb⟩ := hrel
    have z := hb.size
    by_cases hlt : k < n
    · obtain ⟨hx, g, o, vs, rfl, hg, ⟨rfl, hw⟩, hc⟩ := (h.below hb hh).at_ hlt
      obtain ⟨hx', g', o', vs', rfl, hg', ⟨rfl, hw'⟩, hc'⟩ := (h'.below hb hh').at_ hlt
      have cc0 := hc 0 _ rfl
      have dd0 := hc' 0 _ rfl
      have cc1 := hc 1 _ rfl
      have dd1 := hc' 1 _ rfl
      have cc2 := hc 2 _ rfl
      have dd2 := hc' 2 _ rfl
      have cc3 := hc 3 _ rfl
      have dd3 := hc' 3 _ rfl
      have cc4 := hc 4 _ rfl
      have dd4 := hc' 4 _ rfl
      simp only [show layCase.size = 5 from rfl, ← Nat.add_assoc, Nat.add_zero, Nat.mul_one] at cc0 cc1 cc2 cc3 cc4 dd0 dd1 dd2 dd3 dd4
      clear hc hc' hw hw'
      generalize xs[k] = x at *
      have HE := Lib.hid (fun W : World => eqCase_same (w := W) x)
      have hi0 : (0 : Int) ≤ (k : Int) := by omega
      have hi1 : (k : Int) < (n : Int) := by omega
      go_wp2_with fail
      go_region_with (go_at_call 140; refine (HE.out _).mono ?_; rintro e w1 ⟨rfl, hb1⟩)
      all_goals
        have hbb : Below w.heap.size w w1 := hb.drew.trans (hb1.mono z)
        clear hb1 HE cc0 cc1 cc2 cc3 cc4 dd0 dd1 dd2 dd3 dd4
        go_wp2_with fail
        go_roundw
        case rel => exact ⟨k + 1, by omega, by go_num, hbb⟩
        case measure => simp [intOf]; omega
    · go_wp2
      go_ret
      exact ⟨rfl, hb⟩

set_option maxRecDepth 100000 in
set_option maxHeartbeats 1000000 in
theorem toCase_any {w : World} {hi : Nat} {x : DCase} {vs : List Value} (h : layCase.see w hi x vs) :
    Calls Tryz.prog 122 #[.agg vs.toArray] w (MadeL layCase w x) := by
  obtain ⟨rfl, hw⟩ := h
  have HW := Lib.hid hw
  clear hw
  show Calls Tryz.prog 122 #[.agg #[.bool x.fSend, .int .i64 x.fChan, .int .i64 x.fReg, .int .i64 x.fOk, .int .i64 x.fTo]] w (MadeL layCase w x)
  go_enter Tryz.func122, Tryz.ntmps122
  go_wp2
  refine bodyPost_ret (v := .agg #[.bool x.fSend, .int .i64 x.fChan, .int .i64 x.fReg, .int .i64 x.fOk, .int .i64 x.fTo]) (by simp [results, Tryz.results122, go_sem]) rfl ?_
  exact ⟨_, rfl, ⟨rfl, HW.out⟩, by go_grown⟩

theorem infoCase : (Tryz.prog.info? 89).map (fun i => (i.zero, i.size, i.bytes)) = some (some (.agg #[.bool false, .int .i64 0, .int .i64 0, .int .i64 0, .int .i64 0]), 5, 40) := by kernel_rfl

set_option maxRecDepth 100000 in
set_option maxHeartbeats 1000000 in
theorem toCaseS_any {w : World} {A : Option Addr} {n c hi : Nat} {xs : List DCase} (h : SeenR layCase w hi A n xs) (hhi : hi ≤ w.heap.size) (hn : n ≤ 1048576) :
    Calls Tryz.prog 94 #[.slice A n c] w (MadeR layCase 89 w n xs) := by
  obtain ⟨i0, hi0, hz0, hz1, hz2⟩ := info_parts infoCase
  have hmk := fun W : World => run_make (P := Tryz.prog) W 75 89 i0 _ Tryz.underlying75 hi0 hz0 .i64 .i64 n n (by omega) (by omega) (by rw [hz2]; omega) (by omega)
  simp only [hz1, Int.toNat_natCast] at hmk
  have HL := Lib.hid h.1
  clear hi0 hz0 hz1 hz2
  go_enter Tryz.func94, Tryz.ntmps94
  go_wp2
  clear hmk
  go_loopw [4] (fun i wr => ∃ k : Nat, k ≤ n ∧ i = .int .i64 k ∧ Part layCase 89 wr w.heap.size n xs k wr.heap.size ∧ Below w.heap.size w wr) (fun i _ => n - (intOf i).toNat)
  case atStart =>
    refine ⟨0, Nat.zero_le _, rfl, ?_, (Below.refl _ _).alloc (Nat.le_refl _) _⟩
    have hm := Own.made (size := 5) (e := 89) w (madeCells #[.bool false, .int .i64 0, .int .i64 0, .int .i64 0, .int .i64 0] (n * 5)) n n (by simp only [maxLen]; omega) (by simp [size_madeCells]) (Nat.le_refl _)
    exact Part.start HL.out hm (by simp)
  case round =>
    obtain ⟨k, hk, rfl, hpart, hb⟩ := hrel
    have z := hb.size
    by_cases hlt : k < n
    · obtain ⟨hx, g, o, vs, rfl, hg, hsee, hcell⟩ := (h.below hb hhi).at_ hlt
      have hdk := Lib.hid (List.getElem?_eq_getElem hx)
      generalize xs[k] = x at *
      have HE := Lib.hid (fun (W : World) (hW : Below wr.heap.size wr W) => toCase_any (w := W) (layCase.keep hsee fun k hk => hW.block k (by omega)))
      obtain ⟨rfl, hw⟩ := hsee
      have cc0 := hcell 0 _ rfl
      have cc1 := hcell 1 _ rfl
      have cc2 := hcell 2 _ rfl
      have cc3 := hcell 3 _ rfl
      have cc4 := hcell 4 _ rfl
      simp only [show layCase.size = 5 from rfl, ← Nat.add_assoc, Nat.add_zero, Nat.mul_one] at cc0 cc1 cc2 cc3 cc4
      clear hcell
      go_wp2_with fail
      refine (HE.out _ (Below.refl _ _)).mono ?_
      rintro e w1 ⟨us, rfl, own1, hb1⟩
      have hus := layCase.len (layCase.seen own1 (hi := w1.heap.size) fun g hg => hg.2)
      have hsu := layCase.seen own1 (hi := w1.heap.size) fun g hg => hg.2
      obtain ⟨rfl, hwu⟩ := hsu
      have hp1 := hpart.below hb1
      obtain ⟨⟨v0, ho0⟩, hf0⟩ := hp1.room hlt 0 (by decide)
      obtain ⟨⟨v1, ho1⟩, hf1⟩ := hp1.room hlt 1 (by decide)
      obtain ⟨⟨v2, ho2⟩, hf2⟩ := hp1.room hlt 2 (by decide)
      obtain ⟨⟨v3, ho3⟩, hf3⟩ := hp1.room hlt 3 (by decide)
      obtain ⟨⟨v4, ho4⟩, hf4⟩ := hp1.room hlt 4 (by decide)
      have hp2 := hp1.step hdk.out hus own1 (fun g hg => hg)
      have hb2 : Below w.heap.size w w1 := hb.trans (hb1.mono z)
      simp only [show layCase.size = 5 from rfl, ← Nat.add_assoc, Nat.add_zero, Nat.mul_one] at ho0 hf0 ho1 hf1 ho2 hf2 ho3 hf3 ho4 hf4 hp2
      clear hpart hp1 hb1 HE own1 hus cc0 cc1 cc2 cc3 cc4
      go_wp2_with fail
      go_roundw
      case rel => exact ⟨k + 1, by omega, by go_num, by simpa [putCells] using hp2, by go_grown⟩
      case measure => simp [intOf]; omega
    · go_wp2_with fail
      go_ret
      obtain rfl : k = n := by omega
      exact ⟨_, _, rfl, hpart.done, hb⟩
end Go.Proofs.YtghkdkagnibkgaaGreatDoor

namespace Go.Proofs.YtghkdkagnibkgaaGreatDoor
set_option linter.unusedSimpArgs false
set_option linter.unusedVariables false
open Go.RowKit

structure DSelect where
  fCases : List DCase
  fElse : Int
/-- How it lies: its slices in blocks of their own. -/
def laySelect : Lay DSelect := ((layCase.slice 89).pair Lay.int).via fun x => (x.fCases, x.fElse)
theorem opensSelect : Opens Tryz.prog 100 laySelect :=
  opens_via _ (fun a => ⟨⟨a.1, a.2⟩, rfl⟩) (opens_struct Tryz.underlying100 (by kernel_rfl) (.cons rfl (opens_slice Tryz.underlying98 (by kernel_rfl) (by decide) opensCase) (.one rfl (opens_int Tryz.underlying3 (by kernel_rfl)))))
theorem seeSelect {w : World} {hi : Nat} {x : DSelect} {vs : List Value} (h : laySelect.see w hi x vs) : ∃ A0 n0 c0, vs = [.slice A0 n0 c0, .int .i64 x.fElse] ∧ (n0 ≤ c0 ∧ c0 ≤ maxLen ∧ SeenR layCase w hi A0 n0 x.fCases) ∧ (Lit.int .i64 x.fElse).wf = true := by
  obtain ⟨_, _, rfl, s0, s1⟩ := h
  obtain ⟨A0, n0, c0, rfl, h0⟩ := s0
  obtain ⟨rfl, h1⟩ := s1
  exact ⟨A0, n0, c0, rfl, h0, h1⟩
theorem ownSelect {w : World} {F : Nat → Prop} {x : DSelect} {A0 : Option Addr} {n0 c0 : Nat} {F0 : Nat → Prop} (h0 : OwnR layCase 89 w F0 A0 n0 c0 x.fCases) (h1 : (Lit.int .i64 x.fElse).wf = true) (k0 : ∀ g, F0 g → F g) : laySelect.own w F x [.slice A0 n0 c0, .int .i64 x.fElse] := by
  exact ⟨_, _, F0, (fun _ => False), rfl, ⟨A0, n0, c0, rfl, h0⟩, ⟨rfl, h1⟩, k0, (fun _ h => h.elim), (fun g h h2 => h2)⟩

/-- How much it holds. -/
def szSelect (x : DSelect) : Nat := x.fCases.length

set_option maxRecDepth 100000 in
set_option maxHeartbeats 1000000 in
theorem szSelect_any {w : World} {hi l : Nat} {x : DSelect} {vs : List Value} (h : laySelect.see w hi x vs) (hhi : hi ≤ w.heap.size) (hl : l ≤ 1048576) :
    Calls Tryz.prog 53 #[.agg vs.toArray, .int .i64 (l : Int)] w (SzPost w l (szSelect x)) := by
  obtain ⟨A0, n0, c0, rfl, ⟨hc0, hm0, s0⟩, hw1⟩ := seeSelect h
  have hb0 : Below w.heap.size w (w.alloc (.cells #[.slice A0 n0 c0, .int .i64 x.fElse] 100)) := (Below.refl _ _).alloc (Nat.le_refl _) _
  have hz0 : w.heap.size + 1 ≤ (w.alloc (.cells #[.slice A0 n0 c0, .int .i64 x.fElse] 100)).heap.size := by simp
  go_enter Tryz.func53, Tryz.ntmps53
  have L0 := Lib.hid s0.1
  go_wp2_with fail
  refine (szCaseS_any (l := l) (by omega) (Nat.le_trans hc0 hm0)).mono ?_
  rintro e w1 ⟨hb1, hcase⟩
  have z1 := hb1.size
  obtain ⟨hcl1, hfz1⟩ := bcell hb1
  simp only [World.size_alloc] at z1
  have hl1a : w.heap.size < w1.heap.size := by omega
  have hB1 : Below w.heap.size w w1 := hb0.trans (hb1.mono (by simp))
  rcases hcase with ⟨h10, rfl⟩ | ⟨h10, rfl⟩
  · go_wp2_with fail
    go_ret
    exact ⟨hB1, .inl ⟨by unfold szSelect; rw [L0.out]; omega, by unfold szSelect; rw [L0.out]; go_num⟩⟩
  · go_wp2_with fail
    go_ret
    exact ⟨hB1, .inr ⟨by unfold szSelect; rw [L0.out]; omega, rfl⟩⟩

set_option maxRecDepth 100000 in
set_option maxHeartbeats 1000000 in
theorem szSelectS_any {w : World} {hi n c l : Nat} {A : Option Addr} {ds : List DSelect} (h : SeenR laySelect w hi A n ds) (hhi : hi ≤ w.heap.size) (hl : l ≤ 1048576) (hn : n ≤ maxLen) :
    Calls Tryz.prog 24 #[.slice A n c, .int .i64 (l : Int)] w (SzPost w l (n + (ds.map szSelect).sum)) := by
  unfold maxLen at hn
  have HL := Lib.hid h.1
  by_cases h0 : n ≤ l
  · go_enter Tryz.func24, Tryz.ntmps24
    go_wp2_with fail
    go_loopw [1, 5] (fun q i wr => ∃ k : Nat, k ≤ n ∧ i = .int .i64 k ∧ n + ((ds.take k).map szSelect).sum ≤ l ∧ q = .int .i64 ((l - (n + ((ds.take k).map szSelect).sum) : Nat) : Int) ∧ Below w.heap.size w wr) (fun _ i _ => n - (intOf i).toNat)
    case atStart => exact ⟨0, Nat.zero_le _, rfl, by simpa using h0, by simp; go_num, Below.refl _ _⟩
    case round =>
      obtain ⟨k, hk, rfl, hle, rfl, hb⟩ := hrel
      have z := hb.size
      by_cases hlt : k < n
      · obtain ⟨hx, g, o, vs, rfl, hg, hsee, hcell⟩ := (h.below hb hhi).at_ hlt
        have hsee0 := hsee
        have htt := Lib.hid (sum_take_succ (f := szSelect) (List.getElem?_eq_getElem hx))
        have htl := sum_take_le szSelect ds (k + 1)
        rw [htt.out] at htl
        generalize ds[k] = d at *
        obtain ⟨A0, n0, c0, rfl, ⟨hc0, hm0, s0⟩, hw1⟩ := seeSelect hsee
        have cc0 := hcell 0 _ rfl
        have cc1 := hcell 1 _ rfl
        simp only [show laySelect.size = 2 from rfl, ← Nat.add_assoc, Nat.add_zero, Nat.mul_one] at cc0 cc1
        clear hcell hsee s0
        generalize hT : ((ds.take k).map szSelect).sum = S at *
        have HT := Lib.hid hT
        clear hT
        go_wp2_with fail
        refine (szSelect_any (l := l - (n + S)) hsee0 (by omega) (by omega)).mono ?_
        rintro e w1 ⟨hb1, hcase⟩
        have hbb : Below w.heap.size w w1 := hb.trans (hb1.mono z)
        clear cc0 cc1 hb1 hsee0
        rcases hcase with ⟨h1, rfl⟩ | ⟨h1, rfl⟩
        · go_wp2_with fail
          go_roundw
          case rel => exact ⟨k + 1, by omega, by go_num, by rw [htt.out]; omega, by rw [htt.out]; go_num, hbb⟩
          case measure => simp [intOf]; omega
        · go_wp2_with fail
          go_ret
          exact ⟨hbb, .inr ⟨by omega, rfl⟩⟩
      · go_wp2_with fail
        go_ret
        obtain rfl : k = n := by omega
        have htk : ds.take k = ds := List.take_of_length_le (by rw [HL.out]; exact Nat.le_refl _)
        rw [htk] at hle ⊢
        exact ⟨hb, .inl ⟨hle, rfl⟩⟩
  · have h1 : l < n := by omega
    clear h
    go_enter Tryz.func24, Tryz.ntmps24
    go_wp2_with fail
    go_ret
    exact ⟨Below.refl _ _, .inr ⟨by omega, rfl⟩⟩

set_option maxRecDepth 100000 in
set_option maxHeartbeats 1000000 in
theorem eqSelect_same {w : World} {hi hi' : Nat} {x : DSelect} {vs vs' : List Value} (h : laySelect.see w hi x vs) (h' : laySelect.see w hi' x vs') (hhi : hi ≤ w.heap.size) (hhi' : hi' ≤ w.heap.size) (hn : szSelect x ≤ 1048576) :
    Calls Tryz.prog 68 #[.agg vs.toArray, .agg vs'.toArray] w (SaysTrue w) := by
  obtain ⟨A0, n0, c0, rfl, ⟨hc0, hm0, s0⟩, hw1⟩ := seeSelect h
  obtain ⟨A0', n0', c0', rfl, ⟨hc0', hm0', s0'⟩, hw1'⟩ := seeSelect h'
  obtain rfl : n0 = n0' := s0.1.symm.trans s0'.1
  have L0 := Lib.hid s0.1
  have hn0 := hn
  unfold szSelect at hn0
  rw [L0.out] at hn0
  have hb0 : Below w.heap.size w ((w.alloc (.cells #[.slice A0 n0 c0, .int .i64 x.fElse] 93)).alloc (.cells #[.slice A0' n0 c0', .int .i64 x.fElse] 93)) := ((Below.refl _ _).alloc (Nat.le_refl _) _).alloc (by simp) _
  go_enter Tryz.func68, Tryz.ntmps68
  go_wp2_with fail
  refine (eqCaseS_same (s0.below hb0 hhi) (s0'.below hb0 hhi') (by have := hb0.size; omega) (by have := hb0.size; omega) (by omega)).mono ?_
  rintro e w1 ⟨rfl, hb1⟩
  have z1 := hb1.size
  obtain ⟨hcl1, hfz1⟩ := bcell hb1
  have hB1 : Below w.heap.size w w1 := hb0.trans (hb1.mono (by simp; omega))
  simp only [World.size_alloc] at z1
  have hl1a : w.heap.size < w1.heap.size := by omega
  have hl1b : w.heap.size + 1 < w1.heap.size := by omega
  go_wp2_with fail
  (try (go_quiet (fail)))
  go_wp2_with fail
  go_ret
  exact ⟨rfl, by first | exact hB1 | exact below_drawn hB1 _⟩

set_option maxRecDepth 100000 in
set_option maxHeartbeats 1000000 in
theorem eqSelectS_same {A A' : Option Addr} {n c c' hi hi' : Nat} {xs : List DSelect} {w : World} (h : SeenR laySelect w hi A n xs) (h' : SeenR laySelect w hi' A' n xs) (hh : hi ≤ w.heap.size) (hh' : hi' ≤ w.heap.size) (hn : n ≤ 1048576) (hs : (xs.map szSelect).sum ≤ 1048576) :
    Calls Tryz.prog 41 #[.slice A n c, .slice A' n c'] w (SaysTrue w) := by
  go_enter Tryz.func41, Tryz.ntmps41
  go_wp2
  go_loopw [5] (fun i wr => ∃ k : Nat, k ≤ n ∧ i = .int .i64 k ∧ Below w.heap.size w wr) (fun i _ => n - (intOf i).toNat)
  case atStart => exact ⟨0, Nat.zero_le _, rfl, Below.refl _ _⟩
  case round =>
    obtain ⟨k, hk, rfl, hb⟩ := hrel
    have z := hb.size
    by_cases hlt : k < n
    · obtain ⟨hx, g, o, vs, rfl, hg, hsee, hc⟩ := (h.below hb hh).at_ hlt
      obtain ⟨hx', g', o', vs', rfl, hg', hsee', hc'⟩ := (h'.below hb hh').at_ hlt
      have hsz : szSelect xs[k] ≤ 1048576 := Nat.le_trans (sum_mem_le szSelect (List.getElem_mem hx)) hs
      generalize xs[k] = x at *
      have HE := Lib.hid (fun (W : World) (hW : Below wr.heap.size wr W) => eqSelect_same (laySelect.keep hsee fun k hk => hW.block k (by omega)) (laySelect.keep hsee' fun k hk => hW.block k (by omega)) (by have := hW.size; omega) (by have := hW.size; omega) hsz)
      obtain ⟨A0, n0, c0, rfl, ⟨hc0, hm0, s0⟩, hw1⟩ := seeSelect hsee
      obtain ⟨A0', n0', c0', rfl, ⟨hc0', hm0', s0'⟩, hw1'⟩ := seeSelect hsee'
      have cc0 := hc 0 _ rfl
      have dd0 := hc' 0 _ rfl
      have cc1 := hc 1 _ rfl
      have dd1 := hc' 1 _ rfl
      simp only [show laySelect.size = 2 from rfl, ← Nat.add_assoc, Nat.add_zero, Nat.mul_one] at cc0 cc1 dd0 dd1
      clear hc hc' hsee hsee' s0 s0'
      have hi0 : (0 : Int) ≤ (k : Int) := by omega
      have hi1 : (k : Int) < (n : Int) := by omega
      have hb0 : Below wr.heap.size wr wr.drew := (Below.refl _ _).drew
      go_wp2_with fail
      go_region_with (go_at_call 68; refine (HE.out _ hb0).mono ?_; rintro e w1 ⟨rfl, hb1⟩)
      all_goals
        have hbb : Below w.heap.size w w1 := hb.drew.trans (hb1.mono z)
        clear hb1 HE cc0 cc1 dd0 dd1
        go_wp2_with fail
        go_roundw
        case rel => exact ⟨k + 1, by omega, by go_num, hbb⟩
        case measure => simp [intOf]; omega
    · go_wp2
      go_ret
      exact ⟨rfl, hb⟩

set_option maxRecDepth 100000 in
set_option maxHeartbeats 2000000 in
theorem toSelect_any {w : World} {hi : Nat} {x : DSelect} {vs : List Value} (h : laySelect.see w hi x vs) (hhi : hi ≤ w.heap.size) (hn : szSelect x ≤ 1048576) :
    Calls Tryz.prog 59 #[.agg vs.toArray] w (MadeL laySelect w x) := by
  obtain ⟨A0, n0, c0, rfl, ⟨hc0, hm0, s0⟩, hw1⟩ := seeSelect h
  have L0 := Lib.hid s0.1
  have hn0 := hn
  unfold szSelect at hn0
  rw [L0.out] at hn0
  have hb0 : Below w.heap.size w (((w.alloc (.cells #[.slice A0 n0 c0, .int .i64 x.fElse] 100)).alloc (.cells #[.slice none 0 0, .int .i64 0] 93)).alloc (.cells #[.slice none 0 0, .int .i64 0] 93)) := by go_grown
  go_enter Tryz.func59, Tryz.ntmps59
  go_wp2_with fail
  refine (toCaseS_any (s0.below (B := w.heap.size) ?_ hhi) ?_ (by omega)).mono ?_
  · go_grown
  · simp; omega
  rintro e w1 ⟨B0, e0, rfl, own1, hb1⟩
  have z1 := hb1.size
  simp only [World.size_alloc] at z1 own1
  have hB1 : Below w.heap.size w w1 := Below.trans (by go_grown) (hb1.mono (by simp; omega))
  obtain ⟨hcl1, hfz1⟩ := bcell hb1
  have hl1a : w.heap.size < w1.heap.size := by omega
  have hl1b : w.heap.size + 1 < w1.heap.size := by omega
  have hl1c : w.heap.size + 1 + 1 < w1.heap.size := by omega
  go_wp2_with fail
  refine bodyPost_ret (v := .agg #[.slice B0 n0 e0, .int .i64 x.fElse]) (by simp [results, Tryz.results59, go_sem, hcl1, hl1a, hl1b, hl1c]) rfl ?_
  refine ⟨_, rfl, ?_, ?_⟩
  · refine ownSelect (F := _) (OwnR.turned own1 (l := w.heap.size + 1) (r := w.heap.size + 3) ?t0 (fun g hg => .inl (by omega))) hw1 ?k0 
    case t0 =>
      repeat (refine Turned.setCell ?_ (by simp) (by simp) _)
      exact Turned.refl _ _ _
    case k0 => intro g hg; simp only [World.size_setCell]; omega
  · repeat (refine Below.setCell ?_ (by dsimp only; omega) _)
    exact hB1

theorem infoSelect : (Tryz.prog.info? 93).map (fun i => (i.zero, i.size, i.bytes)) = some (some (.agg #[.slice none 0 0, .int .i64 0]), 2, 32) := by kernel_rfl

set_option maxRecDepth 100000 in
set_option maxHeartbeats 1000000 in
theorem toSelectS_any {w : World} {A : Option Addr} {n c hi : Nat} {xs : List DSelect} (h : SeenR laySelect w hi A n xs) (hhi : hi ≤ w.heap.size) (hn : n ≤ 1048576) (hs : (xs.map szSelect).sum ≤ 1048576) :
    Calls Tryz.prog 33 #[.slice A n c] w (MadeR laySelect 93 w n xs) := by
  obtain ⟨i0, hi0, hz0, hz1, hz2⟩ := info_parts infoSelect
  have hmk := fun W : World => run_make (P := Tryz.prog) W 35 93 i0 _ Tryz.underlying35 hi0 hz0 .i64 .i64 n n (by omega) (by omega) (by rw [hz2]; omega) (by omega)
  simp only [hz1, Int.toNat_natCast] at hmk
  have HL := Lib.hid h.1
  clear hi0 hz0 hz1 hz2
  go_enter Tryz.func33, Tryz.ntmps33
  go_wp2
  clear hmk
  go_loopw [4] (fun i wr => ∃ k : Nat, k ≤ n ∧ i = .int .i64 k ∧ Part laySelect 93 wr w.heap.size n xs k wr.heap.size ∧ Below w.heap.size w wr) (fun i _ => n - (intOf i).toNat)
  case atStart =>
    refine ⟨0, Nat.zero_le _, rfl, ?_, (Below.refl _ _).alloc (Nat.le_refl _) _⟩
    have hm := Own.made (size := 2) (e := 93) w (madeCells #[.slice none 0 0, .int .i64 0] (n * 2)) n n (by simp only [maxLen]; omega) (by simp [size_madeCells]) (Nat.le_refl _)
    exact Part.start HL.out hm (by simp)
  case round =>
    obtain ⟨k, hk, rfl, hpart, hb⟩ := hrel
    have z := hb.size
    by_cases hlt : k < n
    · obtain ⟨hx, g, o, vs, rfl, hg, hsee, hcell⟩ := (h.below hb hhi).at_ hlt
      have hsz : szSelect xs[k] ≤ 1048576 := Nat.le_trans (sum_mem_le szSelect (List.getElem_mem hx)) hs
      have hdk := Lib.hid (List.getElem?_eq_getElem hx)
      generalize xs[k] = x at *
      have HE := Lib.hid (fun (W : World) (hW : Below wr.heap.size wr W) => toSelect_any (w := W) (laySelect.keep hsee fun k hk => hW.block k (by omega)) (by have := hW.size; omega) hsz)
      obtain ⟨A0, n0, c0, rfl, ⟨hc0, hm0, s0⟩, hw1⟩ := seeSelect hsee
      have cc0 := hcell 0 _ rfl
      have cc1 := hcell 1 _ rfl
      simp only [show laySelect.size = 2 from rfl, ← Nat.add_assoc, Nat.add_zero, Nat.mul_one] at cc0 cc1
      clear hcell
      go_wp2_with fail
      refine (HE.out _ (Below.refl _ _)).mono ?_
      rintro e w1 ⟨us, rfl, own1, hb1⟩
      have hus := laySelect.len (laySelect.seen own1 (hi := w1.heap.size) fun g hg => hg.2)
      have hsu := laySelect.seen own1 (hi := w1.heap.size) fun g hg => hg.2
      obtain ⟨A0u, n0u, c0u, rfl, ⟨hc0u, hm0u, s0u⟩, hw1u⟩ := seeSelect hsu
      have hp1 := hpart.below hb1
      obtain ⟨⟨v0, ho0⟩, hf0⟩ := hp1.room hlt 0 (by decide)
      obtain ⟨⟨v1, ho1⟩, hf1⟩ := hp1.room hlt 1 (by decide)
      have hp2 := hp1.step hdk.out hus own1 (fun g hg => hg)
      have hb2 : Below w.heap.size w w1 := hb.trans (hb1.mono z)
      simp only [show laySelect.size = 2 from rfl, ← Nat.add_assoc, Nat.add_zero, Nat.mul_one] at ho0 hf0 ho1 hf1 hp2
      clear hpart hp1 hb1 HE own1 hus cc0 cc1 s0 s0u
      go_wp2_with fail
      go_roundw
      case rel => exact ⟨k + 1, by omega, by go_num, by simpa [putCells] using hp2, by go_grown⟩
      case measure => simp [intOf]; omega
    · go_wp2_with fail
      go_ret
      obtain rfl : k = n := by omega
      exact ⟨_, _, rfl, hpart.done, hb⟩
end Go.Proofs.YtghkdkagnibkgaaGreatDoor

namespace Go.Proofs.YtghkdkagnibkgaaGreatDoor
set_option linter.unusedSimpArgs false
set_option linter.unusedVariables false
open Go.RowKit

structure DInstr where
  fOp : Int
  fA : Int
  fB : Int
  fC : Int
/-- How it lies: in its cells alone. -/
def layInstr : Lay DInstr := Lay.flat 4 (fun x => [.int .i64 x.fOp, .int .i64 x.fA, .int .i64 x.fB, .int .i64 x.fC]) (fun x => (Lit.int .i64 x.fOp).wf = true ∧ (Lit.int .i64 x.fA).wf = true ∧ (Lit.int .i64 x.fB).wf = true ∧ (Lit.int .i64 x.fC).wf = true) (fun _ => rfl)
theorem opensInstr : Opens Tryz.prog 180 layInstr := by
  refine Opens.to (opens_struct Tryz.underlying180 (by kernel_rfl) (.cons rfl (opens_int Tryz.underlying3 (by kernel_rfl)) (.cons rfl (opens_int Tryz.underlying3 (by kernel_rfl)) (.cons rfl (opens_int Tryz.underlying3 (by kernel_rfl)) (.one rfl (opens_int Tryz.underlying3 (by kernel_rfl))))))) rfl fun w hi a vs h => ?_
  obtain ⟨a0, a1, a2, a3⟩ := a
  obtain ⟨_, _, rfl, s0, ⟨_, _, rfl, s1, ⟨_, _, rfl, s2, s3⟩⟩⟩ := h
  obtain ⟨rfl, h0⟩ := s0
  obtain ⟨rfl, h1⟩ := s1
  obtain ⟨rfl, h2⟩ := s2
  obtain ⟨rfl, h3⟩ := s3
  exact ⟨⟨a0, a1, a2, a3⟩, rfl, h0, h1, h2, h3⟩

theorem szInstrS_any {w : World} {A : Option Addr} {n c l : Nat} (hl : l ≤ 1048576) (hn : n ≤ maxLen) :
    Calls Tryz.prog 84 #[.slice A n c, .int .i64 (l : Int)] w (SzPost w l n) := by
  unfold maxLen at hn
  by_cases h : n ≤ l
  · have hs : Hid ((l : Int) - (n : Int) = ((l - n : Nat) : Int)) := Lib.hid (by omega)
    go_enter Tryz.func84, Tryz.ntmps84
    go_wp2
    go_ret
    exact ⟨Below.refl _ _, .inl ⟨h, by rw [hs.out]; rfl⟩⟩
  · have h' : l < n := by omega
    go_enter Tryz.func84, Tryz.ntmps84
    go_wp2
    go_ret
    exact ⟨Below.refl _ _, .inr ⟨h', rfl⟩⟩

set_option maxRecDepth 100000 in
set_option maxHeartbeats 1000000 in
theorem eqInstr_same {w : World} (x : DInstr) : Calls Tryz.prog 141 #[.agg #[.int .i64 x.fOp, .int .i64 x.fA, .int .i64 x.fB, .int .i64 x.fC], .agg #[.int .i64 x.fOp, .int .i64 x.fA, .int .i64 x.fB, .int .i64 x.fC]] w (SaysTrue w) := by
  have hb0 : Below w.heap.size w ((w.alloc (.cells #[.int .i64 x.fOp, .int .i64 x.fA, .int .i64 x.fB, .int .i64 x.fC] 61)).alloc (.cells #[.int .i64 x.fOp, .int .i64 x.fA, .int .i64 x.fB, .int .i64 x.fC] 61)) := ((Below.refl _ _).alloc (Nat.le_refl _) _).alloc (by simp) _
  go_enter Tryz.func141, Tryz.ntmps141
  go_wp2
  repeat (go_quiet (fail); go_wp2)
  go_ret
  exact ⟨rfl, by first | exact hb0 | exact below_drawn hb0 _ | go_grown⟩

set_option maxRecDepth 100000 in
set_option maxHeartbeats 1000000 in
theorem eqInstrS_same {A A' : Option Addr} {n c c' hi hi' : Nat} {xs : List DInstr} {w : World} (h : SeenR layInstr w hi A n xs) (h' : SeenR layInstr w hi' A' n xs) (hh : hi ≤ w.heap.size) (hh' : hi' ≤ w.heap.size) (hn : n ≤ 1048576) :
    Calls Tryz.prog 107 #[.slice A n c, .slice A' n c'] w (SaysTrue w) := by
  go_enter Tryz.func107, Tryz.ntmps107
  go_wp2
  go_loopw [5] (fun i wr => ∃ k : Nat, k ≤ n ∧ i = .int .i64 k ∧ Below w.heap.size w wr) (fun i _ => n - (intOf i).toNat)
  case atStart => exact ⟨0, Nat.zero_le _, rfl, Below.refl _ _⟩
  case round =>
    obtain ⟨k, hk, rfl, hb⟩ := hrel
    have z := hb.size
    by_cases hlt : k < n
    · obtain ⟨hx, g, o, vs, rfl, hg, ⟨rfl, hw⟩, hc⟩ := (h.below hb hh).at_ hlt
      obtain ⟨hx', g', o', vs', rfl, hg', ⟨rfl, hw'⟩, hc'⟩ := (h'.below hb hh').at_ hlt
      have cc0 := hc 0 _ rfl
      have dd0 := hc' 0 _ rfl
      have cc1 := hc 1 _ rfl
      have dd1 := hc' 1 _ rfl
      have cc2 := hc 2 _ rfl
      have dd2 := hc' 2 _ rfl
      have cc3 := hc 3 _ rfl
      have dd3 := hc' 3 _ rfl
      simp only [show layInstr.size = 4 from rfl, ← Nat.add_assoc, Nat.add_zero, Nat.mul_one] at cc0 cc1 cc2 cc3 dd0 dd1 dd2 dd3
      clear hc hc' hw hw'
      generalize xs[k] = x at *
      have HE := Lib.hid (fun W : World => eqInstr_same (w := W) x)
      have hi0 : (0 : Int) ≤ (k : Int) := by omega
      have hi1 : (k : Int) < (n : Int) := by omega
      go_wp2_with fail
      go_region_with (go_at_call 141; refine (HE.out _).mono ?_; rintro e w1 ⟨rfl, hb1⟩)
      all_goals
        have hbb : Below w.heap.size w w1 := hb.drew.trans (hb1.mono z)
        clear hb1 HE cc0 cc1 cc2 cc3 dd0 dd1 dd2 dd3
        go_wp2_with fail
        go_roundw
        case rel => exact ⟨k + 1, by omega, by go_num, hbb⟩
        case measure => simp [intOf]; omega
    · go_wp2
      go_ret
      exact ⟨rfl, hb⟩

set_option maxRecDepth 100000 in
set_option maxHeartbeats 1000000 in
theorem toInstr_any {w : World} {hi : Nat} {x : DInstr} {vs : List Value} (h : layInstr.see w hi x vs) :
    Calls Tryz.prog 123 #[.agg vs.toArray] w (MadeL layInstr w x) := by
  obtain ⟨rfl, hw⟩ := h
  have HW := Lib.hid hw
  clear hw
  show Calls Tryz.prog 123 #[.agg #[.int .i64 x.fOp, .int .i64 x.fA, .int .i64 x.fB, .int .i64 x.fC]] w (MadeL layInstr w x)
  go_enter Tryz.func123, Tryz.ntmps123
  go_wp2
  refine bodyPost_ret (v := .agg #[.int .i64 x.fOp, .int .i64 x.fA, .int .i64 x.fB, .int .i64 x.fC]) (by simp [results, Tryz.results123, go_sem]) rfl ?_
  exact ⟨_, rfl, ⟨rfl, HW.out⟩, by go_grown⟩

theorem infoInstr : (Tryz.prog.info? 61).map (fun i => (i.zero, i.size, i.bytes)) = some (some (.agg #[.int .i64 0, .int .i64 0, .int .i64 0, .int .i64 0]), 4, 32) := by kernel_rfl

set_option maxRecDepth 100000 in
set_option maxHeartbeats 1000000 in
theorem toInstrS_any {w : World} {A : Option Addr} {n c hi : Nat} {xs : List DInstr} (h : SeenR layInstr w hi A n xs) (hhi : hi ≤ w.heap.size) (hn : n ≤ 1048576) :
    Calls Tryz.prog 95 #[.slice A n c] w (MadeR layInstr 61 w n xs) := by
  obtain ⟨i0, hi0, hz0, hz1, hz2⟩ := info_parts infoInstr
  have hmk := fun W : World => run_make (P := Tryz.prog) W 116 61 i0 _ Tryz.underlying116 hi0 hz0 .i64 .i64 n n (by omega) (by omega) (by rw [hz2]; omega) (by omega)
  simp only [hz1, Int.toNat_natCast] at hmk
  have HL := Lib.hid h.1
  clear hi0 hz0 hz1 hz2
  go_enter Tryz.func95, Tryz.ntmps95
  go_wp2
  clear hmk
  go_loopw [4] (fun i wr => ∃ k : Nat, k ≤ n ∧ i = .int .i64 k ∧ Part layInstr 61 wr w.heap.size n xs k wr.heap.size ∧ Below w.heap.size w wr) (fun i _ => n - (intOf i).toNat)
  case atStart =>
    refine ⟨0, Nat.zero_le _, rfl, ?_, (Below.refl _ _).alloc (Nat.le_refl _) _⟩
    have hm := Own.made (size := 4) (e := 61) w (madeCells #[.int .i64 0, .int .i64 0, .int .i64 0, .int .i64 0] (n * 4)) n n (by simp only [maxLen]; omega) (by simp [size_madeCells]) (Nat.le_refl _)
    exact Part.start HL.out hm (by simp)
  case round =>
    obtain ⟨k, hk, rfl, hpart, hb⟩ := hrel
    have z := hb.size
    by_cases hlt : k < n
    · obtain ⟨hx, g, o, vs, rfl, hg, hsee, hcell⟩ := (h.below hb hhi).at_ hlt
      have hdk := Lib.hid (List.getElem?_eq_getElem hx)
      generalize xs[k] = x at *
      have HE := Lib.hid (fun (W : World) (hW : Below wr.heap.size wr W) => toInstr_any (w := W) (layInstr.keep hsee fun k hk => hW.block k (by omega)))
      obtain ⟨rfl, hw⟩ := hsee
      have cc0 := hcell 0 _ rfl
      have cc1 := hcell 1 _ rfl
      have cc2 := hcell 2 _ rfl
      have cc3 := hcell 3 _ rfl
      simp only [show layInstr.size = 4 from rfl, ← Nat.add_assoc, Nat.add_zero, Nat.mul_one] at cc0 cc1 cc2 cc3
      clear hcell
      go_wp2_with fail
      refine (HE.out _ (Below.refl _ _)).mono ?_
      rintro e w1 ⟨us, rfl, own1, hb1⟩
      have hus := layInstr.len (layInstr.seen own1 (hi := w1.heap.size) fun g hg => hg.2)
      have hsu := layInstr.seen own1 (hi := w1.heap.size) fun g hg => hg.2
      obtain ⟨rfl, hwu⟩ := hsu
      have hp1 := hpart.below hb1
      obtain ⟨⟨v0, ho0⟩, hf0⟩ := hp1.room hlt 0 (by decide)
      obtain ⟨⟨v1, ho1⟩, hf1⟩ := hp1.room hlt 1 (by decide)
      obtain ⟨⟨v2, ho2⟩, hf2⟩ := hp1.room hlt 2 (by decide)
      obtain ⟨⟨v3, ho3⟩, hf3⟩ := hp1.room hlt 3 (by decide)
      have hp2 := hp1.step hdk.out hus own1 (fun g hg => hg)
      have hb2 : Below w.heap.size w w1 := hb.trans (hb1.mono z)
      simp only [show layInstr.size = 4 from rfl, ← Nat.add_assoc, Nat.add_zero, Nat.mul_one] at ho0 hf0 ho1 hf1 ho2 hf2 ho3 hf3 hp2
      clear hpart hp1 hb1 HE own1 hus cc0 cc1 cc2 cc3
      go_wp2_with fail
      go_roundw
      case rel => exact ⟨k + 1, by omega, by go_num, by simpa [putCells] using hp2, by go_grown⟩
      case measure => simp [intOf]; omega
    · go_wp2_with fail
      go_ret
      obtain rfl : k = n := by omega
      exact ⟨_, _, rfl, hpart.done, hb⟩
end Go.Proofs.YtghkdkagnibkgaaGreatDoor

namespace Go.Proofs.YtghkdkagnibkgaaGreatDoor
set_option linter.unusedSimpArgs false
set_option linter.unusedVariables false
open Go.RowKit

structure DProc where
  fCode : List DInstr
/-- How it lies: its slices in blocks of their own. -/
def layProc : Lay DProc := (layInstr.slice 61).via fun x => x.fCode
theorem opensProc : Opens Tryz.prog 104 layProc :=
  opens_via _ (fun a => ⟨⟨a⟩, rfl⟩) (opens_struct Tryz.underlying104 (by kernel_rfl) (.one rfl (opens_slice Tryz.underlying102 (by kernel_rfl) (by decide) opensInstr)))
theorem seeProc {w : World} {hi : Nat} {x : DProc} {vs : List Value} (h : layProc.see w hi x vs) : ∃ A0 n0 c0, vs = [.slice A0 n0 c0] ∧ (n0 ≤ c0 ∧ c0 ≤ maxLen ∧ SeenR layInstr w hi A0 n0 x.fCode) := by
  have s0 := h
  obtain ⟨A0, n0, c0, rfl, h0⟩ := s0
  exact ⟨A0, n0, c0, rfl, h0⟩
theorem ownProc {w : World} {F : Nat → Prop} {x : DProc} {A0 : Option Addr} {n0 c0 : Nat} {F0 : Nat → Prop} (h0 : OwnR layInstr 61 w F0 A0 n0 c0 x.fCode) (k0 : ∀ g, F0 g → F g) : layProc.own w F x [.slice A0 n0 c0] := by
  exact ⟨A0, n0, c0, rfl, h0.wide k0⟩

/-- How much it holds. -/
def szProc (x : DProc) : Nat := x.fCode.length

set_option maxRecDepth 100000 in
set_option maxHeartbeats 1000000 in
theorem szProc_any {w : World} {hi l : Nat} {x : DProc} {vs : List Value} (h : layProc.see w hi x vs) (hhi : hi ≤ w.heap.size) (hl : l ≤ 1048576) :
    Calls Tryz.prog 54 #[.agg vs.toArray, .int .i64 (l : Int)] w (SzPost w l (szProc x)) := by
  obtain ⟨A0, n0, c0, rfl, ⟨hc0, hm0, s0⟩⟩ := seeProc h
  have hb0 : Below w.heap.size w (w.alloc (.cells #[.slice A0 n0 c0] 104)) := (Below.refl _ _).alloc (Nat.le_refl _) _
  have hz0 : w.heap.size + 1 ≤ (w.alloc (.cells #[.slice A0 n0 c0] 104)).heap.size := by simp
  go_enter Tryz.func54, Tryz.ntmps54
  have L0 := Lib.hid s0.1
  go_wp2_with fail
  refine (szInstrS_any (l := l) (by omega) (Nat.le_trans hc0 hm0)).mono ?_
  rintro e w1 ⟨hb1, hcase⟩
  have z1 := hb1.size
  obtain ⟨hcl1, hfz1⟩ := bcell hb1
  simp only [World.size_alloc] at z1
  have hl1a : w.heap.size < w1.heap.size := by omega
  have hB1 : Below w.heap.size w w1 := hb0.trans (hb1.mono (by simp))
  rcases hcase with ⟨h10, rfl⟩ | ⟨h10, rfl⟩
  · go_wp2_with fail
    go_ret
    exact ⟨hB1, .inl ⟨by unfold szProc; rw [L0.out]; omega, by unfold szProc; rw [L0.out]; go_num⟩⟩
  · go_wp2_with fail
    go_ret
    exact ⟨hB1, .inr ⟨by unfold szProc; rw [L0.out]; omega, rfl⟩⟩

set_option maxRecDepth 100000 in
set_option maxHeartbeats 1000000 in
theorem szProcS_any {w : World} {hi n c l : Nat} {A : Option Addr} {ds : List DProc} (h : SeenR layProc w hi A n ds) (hhi : hi ≤ w.heap.size) (hl : l ≤ 1048576) (hn : n ≤ maxLen) :
    Calls Tryz.prog 25 #[.slice A n c, .int .i64 (l : Int)] w (SzPost w l (n + (ds.map szProc).sum)) := by
  unfold maxLen at hn
  have HL := Lib.hid h.1
  by_cases h0 : n ≤ l
  · go_enter Tryz.func25, Tryz.ntmps25
    go_wp2_with fail
    go_loopw [1, 5] (fun q i wr => ∃ k : Nat, k ≤ n ∧ i = .int .i64 k ∧ n + ((ds.take k).map szProc).sum ≤ l ∧ q = .int .i64 ((l - (n + ((ds.take k).map szProc).sum) : Nat) : Int) ∧ Below w.heap.size w wr) (fun _ i _ => n - (intOf i).toNat)
    case atStart => exact ⟨0, Nat.zero_le _, rfl, by simpa using h0, by simp; go_num, Below.refl _ _⟩
    case round =>
      obtain ⟨k, hk, rfl, hle, rfl, hb⟩ := hrel
      have z := hb.size
      by_cases hlt : k < n
      · obtain ⟨hx, g, o, vs, rfl, hg, hsee, hcell⟩ := (h.below hb hhi).at_ hlt
        have hsee0 := hsee
        have htt := Lib.hid (sum_take_succ (f := szProc) (List.getElem?_eq_getElem hx))
        have htl := sum_take_le szProc ds (k + 1)
        rw [htt.out] at htl
        generalize ds[k] = d at *
        obtain ⟨A0, n0, c0, rfl, ⟨hc0, hm0, s0⟩⟩ := seeProc hsee
        have cc0 := hcell 0 _ rfl
        simp only [show layProc.size = 1 from rfl, ← Nat.add_assoc, Nat.add_zero, Nat.mul_one] at cc0
        clear hcell hsee s0
        generalize hT : ((ds.take k).map szProc).sum = S at *
        have HT := Lib.hid hT
        clear hT
        go_wp2_with fail
        refine (szProc_any (l := l - (n + S)) hsee0 (by omega) (by omega)).mono ?_
        rintro e w1 ⟨hb1, hcase⟩
        have hbb : Below w.heap.size w w1 := hb.trans (hb1.mono z)
        clear cc0 hb1 hsee0
        rcases hcase with ⟨h1, rfl⟩ | ⟨h1, rfl⟩
        · go_wp2_with fail
          go_roundw
          case rel => exact ⟨k + 1, by omega, by go_num, by rw [htt.out]; omega, by rw [htt.out]; go_num, hbb⟩
          case measure => simp [intOf]; omega
        · go_wp2_with fail
          go_ret
          exact ⟨hbb, .inr ⟨by omega, rfl⟩⟩
      · go_wp2_with fail
        go_ret
        obtain rfl : k = n := by omega
        have htk : ds.take k = ds := List.take_of_length_le (by rw [HL.out]; exact Nat.le_refl _)
        rw [htk] at hle ⊢
        exact ⟨hb, .inl ⟨hle, rfl⟩⟩
  · have h1 : l < n := by omega
    clear h
    go_enter Tryz.func25, Tryz.ntmps25
    go_wp2_with fail
    go_ret
    exact ⟨Below.refl _ _, .inr ⟨by omega, rfl⟩⟩

set_option maxRecDepth 100000 in
set_option maxHeartbeats 1000000 in
theorem eqProc_same {w : World} {hi hi' : Nat} {x : DProc} {vs vs' : List Value} (h : layProc.see w hi x vs) (h' : layProc.see w hi' x vs') (hhi : hi ≤ w.heap.size) (hhi' : hi' ≤ w.heap.size) (hn : szProc x ≤ 1048576) :
    Calls Tryz.prog 69 #[.agg vs.toArray, .agg vs'.toArray] w (SaysTrue w) := by
  obtain ⟨A0, n0, c0, rfl, ⟨hc0, hm0, s0⟩⟩ := seeProc h
  obtain ⟨A0', n0', c0', rfl, ⟨hc0', hm0', s0'⟩⟩ := seeProc h'
  obtain rfl : n0 = n0' := s0.1.symm.trans s0'.1
  have L0 := Lib.hid s0.1
  have hn0 := hn
  unfold szProc at hn0
  rw [L0.out] at hn0
  have hb0 : Below w.heap.size w ((w.alloc (.cells #[.slice A0 n0 c0] 118)).alloc (.cells #[.slice A0' n0 c0'] 118)) := ((Below.refl _ _).alloc (Nat.le_refl _) _).alloc (by simp) _
  go_enter Tryz.func69, Tryz.ntmps69
  go_wp2_with fail
  refine (eqInstrS_same (s0.below hb0 hhi) (s0'.below hb0 hhi') (by have := hb0.size; omega) (by have := hb0.size; omega) (by omega)).mono ?_
  rintro e w1 ⟨rfl, hb1⟩
  have z1 := hb1.size
  obtain ⟨hcl1, hfz1⟩ := bcell hb1
  have hB1 : Below w.heap.size w w1 := hb0.trans (hb1.mono (by simp; omega))
  simp only [World.size_alloc] at z1
  have hl1a : w.heap.size < w1.heap.size := by omega
  have hl1b : w.heap.size + 1 < w1.heap.size := by omega
  go_wp2_with fail
  go_ret
  exact ⟨rfl, by first | exact hB1 | exact below_drawn hB1 _⟩

set_option maxRecDepth 100000 in
set_option maxHeartbeats 1000000 in
theorem eqProcS_same {A A' : Option Addr} {n c c' hi hi' : Nat} {xs : List DProc} {w : World} (h : SeenR layProc w hi A n xs) (h' : SeenR layProc w hi' A' n xs) (hh : hi ≤ w.heap.size) (hh' : hi' ≤ w.heap.size) (hn : n ≤ 1048576) (hs : (xs.map szProc).sum ≤ 1048576) :
    Calls Tryz.prog 42 #[.slice A n c, .slice A' n c'] w (SaysTrue w) := by
  go_enter Tryz.func42, Tryz.ntmps42
  go_wp2
  go_loopw [5] (fun i wr => ∃ k : Nat, k ≤ n ∧ i = .int .i64 k ∧ Below w.heap.size w wr) (fun i _ => n - (intOf i).toNat)
  case atStart => exact ⟨0, Nat.zero_le _, rfl, Below.refl _ _⟩
  case round =>
    obtain ⟨k, hk, rfl, hb⟩ := hrel
    have z := hb.size
    by_cases hlt : k < n
    · obtain ⟨hx, g, o, vs, rfl, hg, hsee, hc⟩ := (h.below hb hh).at_ hlt
      obtain ⟨hx', g', o', vs', rfl, hg', hsee', hc'⟩ := (h'.below hb hh').at_ hlt
      have hsz : szProc xs[k] ≤ 1048576 := Nat.le_trans (sum_mem_le szProc (List.getElem_mem hx)) hs
      generalize xs[k] = x at *
      have HE := Lib.hid (fun (W : World) (hW : Below wr.heap.size wr W) => eqProc_same (layProc.keep hsee fun k hk => hW.block k (by omega)) (layProc.keep hsee' fun k hk => hW.block k (by omega)) (by have := hW.size; omega) (by have := hW.size; omega) hsz)
      obtain ⟨A0, n0, c0, rfl, ⟨hc0, hm0, s0⟩⟩ := seeProc hsee
      obtain ⟨A0', n0', c0', rfl, ⟨hc0', hm0', s0'⟩⟩ := seeProc hsee'
      have cc0 := hc 0 _ rfl
      have dd0 := hc' 0 _ rfl
      simp only [show layProc.size = 1 from rfl, ← Nat.add_assoc, Nat.add_zero, Nat.mul_one] at cc0 dd0
      clear hc hc' hsee hsee' s0 s0'
      have hi0 : (0 : Int) ≤ (k : Int) := by omega
      have hi1 : (k : Int) < (n : Int) := by omega
      have hb0 : Below wr.heap.size wr wr.drew := (Below.refl _ _).drew
      go_wp2_with fail
      go_region_with (go_at_call 69; refine (HE.out _ hb0).mono ?_; rintro e w1 ⟨rfl, hb1⟩)
      all_goals
        have hbb : Below w.heap.size w w1 := hb.drew.trans (hb1.mono z)
        clear hb1 HE cc0 dd0
        go_wp2_with fail
        go_roundw
        case rel => exact ⟨k + 1, by omega, by go_num, hbb⟩
        case measure => simp [intOf]; omega
    · go_wp2
      go_ret
      exact ⟨rfl, hb⟩

set_option maxRecDepth 100000 in
set_option maxHeartbeats 2000000 in
theorem toProc_any {w : World} {hi : Nat} {x : DProc} {vs : List Value} (h : layProc.see w hi x vs) (hhi : hi ≤ w.heap.size) (hn : szProc x ≤ 1048576) :
    Calls Tryz.prog 60 #[.agg vs.toArray] w (MadeL layProc w x) := by
  obtain ⟨A0, n0, c0, rfl, ⟨hc0, hm0, s0⟩⟩ := seeProc h
  have L0 := Lib.hid s0.1
  have hn0 := hn
  unfold szProc at hn0
  rw [L0.out] at hn0
  have hb0 : Below w.heap.size w (((w.alloc (.cells #[.slice A0 n0 c0] 104)).alloc (.cells #[.slice none 0 0] 118)).alloc (.cells #[.slice none 0 0] 118)) := by go_grown
  go_enter Tryz.func60, Tryz.ntmps60
  go_wp2_with fail
  refine (toInstrS_any (s0.below (B := w.heap.size) ?_ hhi) ?_ (by omega)).mono ?_
  · go_grown
  · simp; omega
  rintro e w1 ⟨B0, e0, rfl, own1, hb1⟩
  have z1 := hb1.size
  simp only [World.size_alloc] at z1 own1
  have hB1 : Below w.heap.size w w1 := Below.trans (by go_grown) (hb1.mono (by simp; omega))
  obtain ⟨hcl1, hfz1⟩ := bcell hb1
  have hl1a : w.heap.size < w1.heap.size := by omega
  have hl1b : w.heap.size + 1 < w1.heap.size := by omega
  have hl1c : w.heap.size + 1 + 1 < w1.heap.size := by omega
  go_wp2_with fail
  refine bodyPost_ret (v := .agg #[.slice B0 n0 e0]) (by simp [results, Tryz.results60, go_sem, hcl1, hl1a, hl1b, hl1c]) rfl ?_
  refine ⟨_, rfl, ?_, ?_⟩
  · refine ownProc (F := _) (OwnR.turned own1 (l := w.heap.size + 1) (r := w.heap.size + 3) ?t0 (fun g hg => .inl (by omega))) ?k0 
    case t0 =>
      repeat (refine Turned.setCell ?_ (by simp) (by simp) _)
      exact Turned.refl _ _ _
    case k0 => intro g hg; simp only [World.size_setCell]; omega
  · repeat (refine Below.setCell ?_ (by dsimp only; omega) _)
    exact hB1

theorem infoProc : (Tryz.prog.info? 118).map (fun i => (i.zero, i.size, i.bytes)) = some (some (.agg #[.slice none 0 0]), 1, 24) := by kernel_rfl

set_option maxRecDepth 100000 in
set_option maxHeartbeats 1000000 in
theorem toProcS_any {w : World} {A : Option Addr} {n c hi : Nat} {xs : List DProc} (h : SeenR layProc w hi A n xs) (hhi : hi ≤ w.heap.size) (hn : n ≤ 1048576) (hs : (xs.map szProc).sum ≤ 1048576) :
    Calls Tryz.prog 34 #[.slice A n c] w (MadeR layProc 118 w n xs) := by
  obtain ⟨i0, hi0, hz0, hz1, hz2⟩ := info_parts infoProc
  have hmk := fun W : World => run_make (P := Tryz.prog) W 36 118 i0 _ Tryz.underlying36 hi0 hz0 .i64 .i64 n n (by omega) (by omega) (by rw [hz2]; omega) (by omega)
  simp only [hz1, Int.toNat_natCast] at hmk
  have HL := Lib.hid h.1
  clear hi0 hz0 hz1 hz2
  go_enter Tryz.func34, Tryz.ntmps34
  go_wp2
  clear hmk
  go_loopw [4] (fun i wr => ∃ k : Nat, k ≤ n ∧ i = .int .i64 k ∧ Part layProc 118 wr w.heap.size n xs k wr.heap.size ∧ Below w.heap.size w wr) (fun i _ => n - (intOf i).toNat)
  case atStart =>
    refine ⟨0, Nat.zero_le _, rfl, ?_, (Below.refl _ _).alloc (Nat.le_refl _) _⟩
    have hm := Own.made (size := 1) (e := 118) w (madeCells #[.slice none 0 0] n) n n (by simp only [maxLen]; omega) (by simp [size_madeCells]) (Nat.le_refl _)
    exact Part.start HL.out hm (by simp)
  case round =>
    obtain ⟨k, hk, rfl, hpart, hb⟩ := hrel
    have z := hb.size
    by_cases hlt : k < n
    · obtain ⟨hx, g, o, vs, rfl, hg, hsee, hcell⟩ := (h.below hb hhi).at_ hlt
      have hsz : szProc xs[k] ≤ 1048576 := Nat.le_trans (sum_mem_le szProc (List.getElem_mem hx)) hs
      have hdk := Lib.hid (List.getElem?_eq_getElem hx)
      generalize xs[k] = x at *
      have HE := Lib.hid (fun (W : World) (hW : Below wr.heap.size wr W) => toProc_any (w := W) (layProc.keep hsee fun k hk => hW.block k (by omega)) (by have := hW.size; omega) hsz)
      obtain ⟨A0, n0, c0, rfl, ⟨hc0, hm0, s0⟩⟩ := seeProc hsee
      have cc0 := hcell 0 _ rfl
      simp only [show layProc.size = 1 from rfl, ← Nat.add_assoc, Nat.add_zero, Nat.mul_one] at cc0
      clear hcell
      go_wp2_with fail
      refine (HE.out _ (Below.refl _ _)).mono ?_
      rintro e w1 ⟨us, rfl, own1, hb1⟩
      have hus := layProc.len (layProc.seen own1 (hi := w1.heap.size) fun g hg => hg.2)
      have hsu := layProc.seen own1 (hi := w1.heap.size) fun g hg => hg.2
      obtain ⟨A0u, n0u, c0u, rfl, ⟨hc0u, hm0u, s0u⟩⟩ := seeProc hsu
      have hp1 := hpart.below hb1
      obtain ⟨⟨v0, ho0⟩, hf0⟩ := hp1.room hlt 0 (by decide)
      have hp2 := hp1.step hdk.out hus own1 (fun g hg => hg)
      have hb2 : Below w.heap.size w w1 := hb.trans (hb1.mono z)
      simp only [show layProc.size = 1 from rfl, ← Nat.add_assoc, Nat.add_zero, Nat.mul_one] at ho0 hf0 hp2
      clear hpart hp1 hb1 HE own1 hus cc0 s0 s0u
      go_wp2_with fail
      go_roundw
      case rel => exact ⟨k + 1, by omega, by go_num, by simpa [putCells] using hp2, by go_grown⟩
      case measure => simp [intOf]; omega
    · go_wp2_with fail
      go_ret
      obtain rfl : k = n := by omega
      exact ⟨_, _, rfl, hpart.done, hb⟩
end Go.Proofs.YtghkdkagnibkgaaGreatDoor

namespace Go.Proofs.YtghkdkagnibkgaaGreatDoor
set_option linter.unusedSimpArgs false
set_option linter.unusedVariables false
open Go.RowKit

structure DProg where
  fCaps : List Int
  fMus : Int
  fSels : List DSelect
  fProcs : List DProc
/-- How it lies: its slices in blocks of their own. -/
def layProg : Lay DProg := ((Lay.int.slice 3).pair (Lay.int.pair ((laySelect.slice 93).pair (layProc.slice 118)))).via fun x => (x.fCaps, (x.fMus, (x.fSels, x.fProcs)))
theorem opensProg : Opens Tryz.prog 26 layProg :=
  opens_via _ (fun a => ⟨⟨a.1, a.2.1, a.2.2.1, a.2.2.2⟩, rfl⟩) (opens_struct Tryz.underlying26 (by kernel_rfl) (.cons rfl (opens_slice Tryz.underlying22 (by kernel_rfl) (by decide) (opens_int Tryz.underlying3 (by kernel_rfl))) (.cons rfl (opens_int Tryz.underlying3 (by kernel_rfl)) (.cons rfl (opens_slice Tryz.underlying23 (by kernel_rfl) (by decide) opensSelect) (.one rfl (opens_slice Tryz.underlying24 (by kernel_rfl) (by decide) opensProc))))))
theorem seeProg {w : World} {hi : Nat} {x : DProg} {vs : List Value} (h : layProg.see w hi x vs) : ∃ A0 n0 c0 A2 n2 c2 A3 n3 c3, vs = [.slice A0 n0 c0, .int .i64 x.fMus, .slice A2 n2 c2, .slice A3 n3 c3] ∧ (n0 ≤ c0 ∧ c0 ≤ maxLen ∧ SeenR Lay.int w hi A0 n0 x.fCaps) ∧ (Lit.int .i64 x.fMus).wf = true ∧ (n2 ≤ c2 ∧ c2 ≤ maxLen ∧ SeenR laySelect w hi A2 n2 x.fSels) ∧ (n3 ≤ c3 ∧ c3 ≤ maxLen ∧ SeenR layProc w hi A3 n3 x.fProcs) := by
  obtain ⟨_, _, rfl, s0, ⟨_, _, rfl, s1, ⟨_, _, rfl, s2, s3⟩⟩⟩ := h
  obtain ⟨A0, n0, c0, rfl, h0⟩ := s0
  obtain ⟨rfl, h1⟩ := s1
  obtain ⟨A2, n2, c2, rfl, h2⟩ := s2
  obtain ⟨A3, n3, c3, rfl, h3⟩ := s3
  exact ⟨A0, n0, c0, A2, n2, c2, A3, n3, c3, rfl, h0, h1, h2, h3⟩
theorem ownProg {w : World} {F : Nat → Prop} {x : DProg} {A0 : Option Addr} {n0 c0 : Nat} {F0 : Nat → Prop} (h0 : OwnR Lay.int 3 w F0 A0 n0 c0 x.fCaps) (h1 : (Lit.int .i64 x.fMus).wf = true) {A2 : Option Addr} {n2 c2 : Nat} {F2 : Nat → Prop} (h2 : OwnR laySelect 93 w F2 A2 n2 c2 x.fSels) {A3 : Option Addr} {n3 c3 : Nat} {F3 : Nat → Prop} (h3 : OwnR layProc 118 w F3 A3 n3 c3 x.fProcs) (k0 : ∀ g, F0 g → F g) (k2 : ∀ g, F2 g → F g) (k3 : ∀ g, F3 g → F g) (d02 : ∀ g, F0 g → ¬ F2 g) (d03 : ∀ g, F0 g → ¬ F3 g) (d23 : ∀ g, F2 g → ¬ F3 g) : layProg.own w F x [.slice A0 n0 c0, .int .i64 x.fMus, .slice A2 n2 c2, .slice A3 n3 c3] := by
  exact ⟨_, _, F0, (fun g => F2 g ∨ F3 g), rfl, ⟨A0, n0, c0, rfl, h0⟩, ⟨_, _, (fun _ => False), (fun g => F2 g ∨ F3 g), rfl, ⟨rfl, h1⟩, ⟨_, _, F2, (fun g => F3 g), rfl, ⟨A2, n2, c2, rfl, h2⟩, ⟨A3, n3, c3, rfl, h3⟩, (fun g h => Or.inl h), (fun g h => Or.inr h), (fun g h h2 => by first | exact d23 g h h2)⟩, (fun g h => h.elim), (fun g h => h), (fun g h => h.elim)⟩, k0, (fun g h => by rcases h with h | h <;> first | exact k2 g h | exact k3 g h), (fun g h h2 => by rcases h2 with h2 | h2 <;> first | exact d02 g h h2 | exact d03 g h h2)⟩

/-- How much it holds. -/
def szProg (x : DProg) : Nat := x.fCaps.length + (x.fSels.length + (x.fSels.map szSelect).sum) + (x.fProcs.length + (x.fProcs.map szProc).sum)

set_option maxRecDepth 100000 in
set_option maxHeartbeats 1000000 in
theorem szProg_any {w : World} {hi l : Nat} {x : DProg} {vs : List Value} (h : layProg.see w hi x vs) (hhi : hi ≤ w.heap.size) (hl : l ≤ 1048576) :
    Calls Tryz.prog 6 #[.agg vs.toArray, .int .i64 (l : Int)] w (SzPost w l (szProg x)) := by
  obtain ⟨A0, n0, c0, A2, n2, c2, A3, n3, c3, rfl, ⟨hc0, hm0, s0⟩, hw1, ⟨hc2, hm2, s2⟩, ⟨hc3, hm3, s3⟩⟩ := seeProg h
  have hb0 : Below w.heap.size w (w.alloc (.cells #[.slice A0 n0 c0, .int .i64 x.fMus, .slice A2 n2 c2, .slice A3 n3 c3] 26)) := (Below.refl _ _).alloc (Nat.le_refl _) _
  have hz0 : w.heap.size + 1 ≤ (w.alloc (.cells #[.slice A0 n0 c0, .int .i64 x.fMus, .slice A2 n2 c2, .slice A3 n3 c3] 26)).heap.size := by simp
  go_enter Tryz.func6, Tryz.ntmps6
  have L0 := Lib.hid s0.1
  go_wp2_with fail
  refine (szIntS_any (l := l) (by omega) (Nat.le_trans hc0 hm0)).mono ?_
  rintro e w1 ⟨hb1, hcase⟩
  have z1 := hb1.size
  obtain ⟨hcl1, hfz1⟩ := bcell hb1
  simp only [World.size_alloc] at z1
  have hl1a : w.heap.size < w1.heap.size := by omega
  have hB1 : Below w.heap.size w w1 := hb0.trans (hb1.mono (by simp))
  rcases hcase with ⟨h10, rfl⟩ | ⟨h10, rfl⟩
  · skip
    have L2 := Lib.hid s2.1
    go_wp2_with fail
    refine (szSelectS_any (l := l - n0) (s2.below hB1 hhi) (by have := hB1.size; omega) (by omega) (Nat.le_trans hc2 hm2)).mono ?_
    rintro e w2 ⟨hb2, hcase⟩
    have z2 := hb2.size
    obtain ⟨hcl2, hfz2⟩ := bcell hb2
    have hl2a : w.heap.size < w2.heap.size := by omega
    have hB2 : Below w.heap.size w w2 := hB1.trans (hb2.mono (by omega))
    rcases hcase with ⟨h11, rfl⟩ | ⟨h11, rfl⟩
    · skip
      have L3 := Lib.hid s3.1
      go_wp2_with fail
      refine (szProcS_any (l := l - n0 - (n2 + (x.fSels.map szSelect).sum)) (s3.below hB2 hhi) (by have := hB2.size; omega) (by omega) (Nat.le_trans hc3 hm3)).mono ?_
      rintro e w3 ⟨hb3, hcase⟩
      have z3 := hb3.size
      obtain ⟨hcl3, hfz3⟩ := bcell hb3
      have hl3a : w.heap.size < w3.heap.size := by omega
      have hB3 : Below w.heap.size w w3 := hB2.trans (hb3.mono (by omega))
      rcases hcase with ⟨h12, rfl⟩ | ⟨h12, rfl⟩
      · go_wp2_with fail
        go_ret
        exact ⟨hB3, .inl ⟨by unfold szProg; rw [L0.out]; rw [L2.out]; rw [L3.out]; omega, by unfold szProg; rw [L0.out]; rw [L2.out]; rw [L3.out]; go_num⟩⟩
      · go_wp2_with fail
        go_ret
        exact ⟨hB3, .inr ⟨by unfold szProg; rw [L0.out]; rw [L2.out]; rw [L3.out]; omega, rfl⟩⟩
    · go_wp2_with fail
      go_ret
      exact ⟨hB2, .inr ⟨by unfold szProg; rw [L0.out]; rw [L2.out]; omega, rfl⟩⟩
  · go_wp2_with fail
    go_ret
    exact ⟨hB1, .inr ⟨by unfold szProg; rw [L0.out]; omega, rfl⟩⟩

set_option maxRecDepth 100000 in
set_option maxHeartbeats 1000000 in
theorem eqProg_same {w : World} {hi hi' : Nat} {x : DProg} {vs vs' : List Value} (h : layProg.see w hi x vs) (h' : layProg.see w hi' x vs') (hhi : hi ≤ w.heap.size) (hhi' : hi' ≤ w.heap.size) (hn : szProg x ≤ 1048576) :
    Calls Tryz.prog 13 #[.agg vs.toArray, .agg vs'.toArray] w (SaysTrue w) := by
  obtain ⟨A0, n0, c0, A2, n2, c2, A3, n3, c3, rfl, ⟨hc0, hm0, s0⟩, hw1, ⟨hc2, hm2, s2⟩, ⟨hc3, hm3, s3⟩⟩ := seeProg h
  obtain ⟨A0', n0', c0', A2', n2', c2', A3', n3', c3', rfl, ⟨hc0', hm0', s0'⟩, hw1', ⟨hc2', hm2', s2'⟩, ⟨hc3', hm3', s3'⟩⟩ := seeProg h'
  obtain rfl : n0 = n0' := s0.1.symm.trans s0'.1
  have L0 := Lib.hid s0.1
  obtain rfl : n2 = n2' := s2.1.symm.trans s2'.1
  have L2 := Lib.hid s2.1
  obtain rfl : n3 = n3' := s3.1.symm.trans s3'.1
  have L3 := Lib.hid s3.1
  have hn0 := hn
  unfold szProg at hn0
  rw [L0.out] at hn0
  rw [L2.out] at hn0
  rw [L3.out] at hn0
  have hb0 : Below w.heap.size w ((w.alloc (.cells #[.slice A0 n0 c0, .int .i64 x.fMus, .slice A2 n2 c2, .slice A3 n3 c3] 38)).alloc (.cells #[.slice A0' n0 c0', .int .i64 x.fMus, .slice A2' n2 c2', .slice A3' n3 c3'] 38)) := ((Below.refl _ _).alloc (Nat.le_refl _) _).alloc (by simp) _
  go_enter Tryz.func13, Tryz.ntmps13
  go_wp2_with fail
  refine (eqIntS_same (s0.below hb0 hhi) (s0'.below hb0 hhi')  (by omega)).mono ?_
  rintro e w1 ⟨rfl, hb1⟩
  have z1 := hb1.size
  obtain ⟨hcl1, hfz1⟩ := bcell hb1
  have hB1 : Below w.heap.size w w1 := hb0.trans (hb1.mono (by simp; omega))
  simp only [World.size_alloc] at z1
  have hl1a : w.heap.size < w1.heap.size := by omega
  have hl1b : w.heap.size + 1 < w1.heap.size := by omega
  go_wp2_with fail
  (try (go_quiet (fail)))
  go_wp2_with fail
  refine (eqSelectS_same (s2.below hB1 hhi) (s2'.below hB1 hhi') (by have := hB1.size; omega) (by have := hB1.size; omega) (by omega) (by omega)).mono ?_
  rintro e w2 ⟨rfl, hb2⟩
  have z2 := hb2.size
  obtain ⟨hcl2, hfz2⟩ := bcell hb2
  have hB2 : Below w.heap.size w w2 := hB1.trans (hb2.mono (by omega))
  have hl2a : w.heap.size < w2.heap.size := by omega
  have hl2b : w.heap.size + 1 < w2.heap.size := by omega
  go_wp2_with fail
  refine (eqProcS_same (s3.below hB2 hhi) (s3'.below hB2 hhi') (by have := hB2.size; omega) (by have := hB2.size; omega) (by omega) (by omega)).mono ?_
  rintro e w3 ⟨rfl, hb3⟩
  have z3 := hb3.size
  obtain ⟨hcl3, hfz3⟩ := bcell hb3
  have hB3 : Below w.heap.size w w3 := hB2.trans (hb3.mono (by omega))
  have hl3a : w.heap.size < w3.heap.size := by omega
  have hl3b : w.heap.size + 1 < w3.heap.size := by omega
  go_wp2_with fail
  go_ret
  exact ⟨rfl, by first | exact hB3 | exact below_drawn hB3 _⟩

set_option maxRecDepth 100000 in
set_option maxHeartbeats 2000000 in
theorem toProg_any {w : World} {hi : Nat} {x : DProg} {vs : List Value} (h : layProg.see w hi x vs) (hhi : hi ≤ w.heap.size) (hn : szProg x ≤ 1048576) :
    Calls Tryz.prog 9 #[.agg vs.toArray] w (MadeL layProg w x) := by
  obtain ⟨A0, n0, c0, A2, n2, c2, A3, n3, c3, rfl, ⟨hc0, hm0, s0⟩, hw1, ⟨hc2, hm2, s2⟩, ⟨hc3, hm3, s3⟩⟩ := seeProg h
  have L0 := Lib.hid s0.1
  have L2 := Lib.hid s2.1
  have L3 := Lib.hid s3.1
  have hn0 := hn
  unfold szProg at hn0
  rw [L0.out] at hn0
  rw [L2.out] at hn0
  rw [L3.out] at hn0
  have hb0 : Below w.heap.size w (((w.alloc (.cells #[.slice A0 n0 c0, .int .i64 x.fMus, .slice A2 n2 c2, .slice A3 n3 c3] 26)).alloc (.cells #[.slice none 0 0, .int .i64 0, .slice none 0 0, .slice none 0 0] 38)).alloc (.cells #[.slice none 0 0, .int .i64 0, .slice none 0 0, .slice none 0 0] 38)) := by go_grown
  go_enter Tryz.func9, Tryz.ntmps9
  go_wp2_with fail
  refine (toIntS_any (s0.below (B := w.heap.size) ?_ hhi) ?_ (by omega)).mono ?_
  · go_grown
  · simp; omega
  rintro e w1 ⟨B0, e0, rfl, own1, hb1⟩
  have z1 := hb1.size
  simp only [World.size_alloc] at z1 own1
  have hB1 : Below w.heap.size w w1 := Below.trans (by go_grown) (hb1.mono (by simp; omega))
  obtain ⟨hcl1, hfz1⟩ := bcell hb1
  have hl1a : w.heap.size < w1.heap.size := by omega
  have hl1b : w.heap.size + 1 < w1.heap.size := by omega
  have hl1c : w.heap.size + 1 + 1 < w1.heap.size := by omega
  go_wp2_with fail
  refine (toSelectS_any (s2.below (B := w.heap.size) ?_ hhi) ?_ (by omega) (by omega)).mono ?_
  · repeat (refine Below.setCell ?_ (by dsimp only; omega) _)
    exact hB1
  · simp; omega
  rintro e w2 ⟨B2, e2, rfl, own2, hb2⟩
  have z2 := hb2.size
  simp only [World.size_setCell] at z2 own2
  have ht2 : Turned (w.heap.size + 1) (w.heap.size + 3) w1 w2 := by
    refine Turned.trans ?_ (Turned.of_below hb2 _ _)
    repeat (refine Turned.setCell ?_ (by simp) (by simp) _)
    exact Turned.refl _ _ _
  have hB2 : Below w.heap.size w w2 := hB1.trans (ht2.below (by omega) (by omega))
  replace own1 := own1.turned ht2 (fun g hg => .inl (by omega))
  obtain ⟨hcl2, hfz2⟩ := bcell hb2
  have hl2a : w.heap.size < w2.heap.size := by omega
  have hl2b : w.heap.size + 1 < w2.heap.size := by omega
  have hl2c : w.heap.size + 1 + 1 < w2.heap.size := by omega
  go_wp2_with fail
  refine (toProcS_any (s3.below (B := w.heap.size) ?_ hhi) ?_ (by omega) (by omega)).mono ?_
  · repeat (refine Below.setCell ?_ (by dsimp only; omega) _)
    exact hB2
  · simp; omega
  rintro e w3 ⟨B3, e3, rfl, own3, hb3⟩
  have z3 := hb3.size
  simp only [World.size_setCell] at z3 own3
  have ht3 : Turned (w.heap.size + 1) (w.heap.size + 3) w2 w3 := by
    refine Turned.trans ?_ (Turned.of_below hb3 _ _)
    repeat (refine Turned.setCell ?_ (by simp) (by simp) _)
    exact Turned.refl _ _ _
  have hB3 : Below w.heap.size w w3 := hB2.trans (ht3.below (by omega) (by omega))
  replace own1 := own1.turned ht3 (fun g hg => .inl (by omega))
  replace own2 := own2.turned ht3 (fun g hg => .inl (by omega))
  obtain ⟨hcl3, hfz3⟩ := bcell hb3
  have hl3a : w.heap.size < w3.heap.size := by omega
  have hl3b : w.heap.size + 1 < w3.heap.size := by omega
  have hl3c : w.heap.size + 1 + 1 < w3.heap.size := by omega
  go_wp2_with fail
  refine bodyPost_ret (v := .agg #[.slice B0 n0 e0, .int .i64 x.fMus, .slice B2 n2 e2, .slice B3 n3 e3]) (by simp [results, Tryz.results9, go_sem, hcl1, hl1a, hl1b, hl1c, hcl2, hl2a, hl2b, hl2c, hcl3, hl3a, hl3b, hl3c]) rfl ?_
  refine ⟨_, rfl, ?_, ?_⟩
  · refine ownProg (F := _) (OwnR.turned own1 (l := w.heap.size + 1) (r := w.heap.size + 3) ?t0 (fun g hg => .inl (by omega))) hw1 (OwnR.turned own2 (l := w.heap.size + 1) (r := w.heap.size + 3) ?t2 (fun g hg => .inl (by omega))) (OwnR.turned own3 (l := w.heap.size + 1) (r := w.heap.size + 3) ?t3 (fun g hg => .inl (by omega))) ?k0 ?k2 ?k3 ?d02 ?d03 ?d23
    case t0 =>
      repeat (refine Turned.setCell ?_ (by simp) (by simp) _)
      exact Turned.refl _ _ _
    case t2 =>
      repeat (refine Turned.setCell ?_ (by simp) (by simp) _)
      exact Turned.refl _ _ _
    case t3 =>
      repeat (refine Turned.setCell ?_ (by simp) (by simp) _)
      exact Turned.refl _ _ _
    case k0 => intro g hg; simp only [World.size_setCell]; omega
    case k2 => intro g hg; simp only [World.size_setCell]; omega
    case k3 => intro g hg; simp only [World.size_setCell]; omega
    case d02 => intro g hg hg'; omega
    case d03 => intro g hg hg'; omega
    case d23 => intro g hg hg'; omega
  · repeat (refine Below.setCell ?_ (by dsimp only; omega) _)
    exact hB3

end Go.Proofs.YtghkdkagnibkgaaGreatDoor
