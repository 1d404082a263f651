
/- Proc: how it lies, how it is opened as an argument; the contracts of the laws' helpers over it. Laid by wip/tools/gen.py. -/

import Derived.Test.YtgfkadhojlddpaaDoorDInstr

namespace Go.Proofs.YtgfkadhojlddpaaDoor
set_option linter.unusedSimpArgs false
set_option linter.unusedVariables false
open Go.RowKit

structure DProc where
  fCode : List DInstr
/-- How it lies: its slices in blocks of their own. -/
def layProc : Lay DProc := (layInstr.slice 25).via fun x => x.fCode
theorem opensProc : Opens Tryd.prog 134 layProc :=
  opens_via _ (fun a => ⟨⟨a⟩, rfl⟩) (opens_struct Tryd.underlying134 (by kernel_rfl) (.one rfl (opens_slice Tryd.underlying132 (by kernel_rfl) (by decide) opensInstr)))
theorem seeProc {w : World} {hi : Nat} {x : DProc} {vs : List Value} (h : layProc.see w hi x vs) : ∃ A0 n0 c0, vs = [.slice A0 n0 c0] ∧ (n0 ≤ c0 ∧ c0 ≤ maxLen ∧ SeenR layInstr w hi A0 n0 x.fCode) := by
  have s0 := h
  obtain ⟨A0, n0, c0, rfl, h0⟩ := s0
  exact ⟨A0, n0, c0, rfl, h0⟩
theorem ownProc {w : World} {F : Nat → Prop} {x : DProc} {A0 : Option Addr} {n0 c0 : Nat} {F0 : Nat → Prop} (h0 : OwnR layInstr 25 w F0 A0 n0 c0 x.fCode) (k0 : ∀ g, F0 g → F g) : layProc.own w F x [.slice A0 n0 c0] := by
  exact ⟨A0, n0, c0, rfl, h0.wide k0⟩

/-- How much it holds. -/
def szProc (x : DProc) : Nat := x.fCode.length

set_option maxRecDepth 100000 in
set_option maxHeartbeats 1000000 in
theorem szProc_any {w : World} {hi l : Nat} {x : DProc} {vs : List Value} (h : layProc.see w hi x vs) (hhi : hi ≤ w.heap.size) (hl : l ≤ 1048576) :
    Calls Tryd.prog 94 #[.agg vs.toArray, .int .i64 (l : Int)] w (SzPost w l (szProc x)) := by
  obtain ⟨A0, n0, c0, rfl, ⟨hc0, hm0, s0⟩⟩ := seeProc h
  have hb0 : Below w.heap.size w (w.alloc (.cells #[.slice A0 n0 c0] 134)) := (Below.refl _ _).alloc (Nat.le_refl _) _
  have hz0 : w.heap.size + 1 ≤ (w.alloc (.cells #[.slice A0 n0 c0] 134)).heap.size := by simp
  go_enter Tryd.func94, Tryd.ntmps94
  have L0 := Lib.hid s0.1
  go_wp2_with fail
  refine (szInstrS_any (l := l) (by omega) (Nat.le_trans hc0 hm0)).mono ?_
  rintro e w1 ⟨hb1, hcase⟩
  have z1 := hb1.size
  obtain ⟨hcl1, hfz1⟩ := bcell hb1
  simp only [World.size_alloc] at z1
  have hl1a : w.heap.size < w1.heap.size := by omega
  have hB1 : Below w.heap.size w w1 := hb0.trans (hb1.mono (by simp))
  rcases hcase with ⟨h10, rfl⟩ | ⟨h10, rfl⟩
  · go_wp2_with fail
    go_ret
    exact ⟨hB1, .inl ⟨by unfold szProc; rw [L0.out]; omega, by unfold szProc; rw [L0.out]; go_num⟩⟩
  · go_wp2_with fail
    go_ret
    exact ⟨hB1, .inr ⟨by unfold szProc; rw [L0.out]; omega, rfl⟩⟩

set_option maxRecDepth 100000 in
set_option maxHeartbeats 1000000 in
theorem szProcS_any {w : World} {hi n c l : Nat} {A : Option Addr} {ds : List DProc} (h : SeenR layProc w hi A n ds) (hhi : hi ≤ w.heap.size) (hl : l ≤ 1048576) (hn : n ≤ maxLen) :
    Calls Tryd.prog 50 #[.slice A n c, .int .i64 (l : Int)] w (SzPost w l (n + (ds.map szProc).sum)) := by
  unfold maxLen at hn
  have HL := Lib.hid h.1
  by_cases h0 : n ≤ l
  · go_enter Tryd.func50, Tryd.ntmps50
    go_wp2_with fail
    go_loopw [1, 5] (fun q i wr => ∃ k : Nat, k ≤ n ∧ i = .int .i64 k ∧ n + ((ds.take k).map szProc).sum ≤ l ∧ q = .int .i64 ((l - (n + ((ds.take k).map szProc).sum) : Nat) : Int) ∧ Below w.heap.size w wr) (fun _ i _ => n - (intOf i).toNat)
    case atStart => exact ⟨0, Nat.zero_le _, rfl, by simpa using h0, by simp; go_num, Below.refl _ _⟩
    case round =>
      obtain ⟨k, hk, rfl, hle, rfl, hb⟩ := hrel
      have z := hb.size
      by_cases hlt : k < n
      · obtain ⟨hx, g, o, vs, rfl, hg, hsee, hcell⟩ := (h.below hb hhi).at_ hlt
        have hsee0 := hsee
        have htt := Lib.hid (sum_take_succ (f := szProc) (List.getElem?_eq_getElem hx))
        have htl := sum_take_le szProc ds (k + 1)
        rw [htt.out] at htl
        generalize ds[k] = d at *
        obtain ⟨A0, n0, c0, rfl, ⟨hc0, hm0, s0⟩⟩ := seeProc hsee
        have cc0 := hcell 0 _ rfl
        simp only [show layProc.size = 1 from rfl, ← Nat.add_assoc, Nat.add_zero, Nat.mul_one] at cc0
        clear hcell hsee s0
        generalize hT : ((ds.take k).map szProc).sum = S at *
        have HT := Lib.hid hT
        clear hT
        go_wp2_with fail
        refine (szProc_any (l := l - (n + S)) hsee0 (by omega) (by omega)).mono ?_
        rintro e w1 ⟨hb1, hcase⟩
        have hbb : Below w.heap.size w w1 := hb.trans (hb1.mono z)
        clear cc0 hb1 hsee0
        rcases hcase with ⟨h1, rfl⟩ | ⟨h1, rfl⟩
        · go_wp2_with fail
          go_roundw
          case rel => exact ⟨k + 1, by omega, by go_num, by rw [htt.out]; omega, by rw [htt.out]; go_num, hbb⟩
          case measure => simp [intOf]; omega
        · go_wp2_with fail
          go_ret
          exact ⟨hbb, .inr ⟨by omega, rfl⟩⟩
      · go_wp2_with fail
        go_ret
        obtain rfl : k = n := by omega
        have htk : ds.take k = ds := List.take_of_length_le (by rw [HL.out]; exact Nat.le_refl _)
        rw [htk] at hle ⊢
        exact ⟨hb, .inl ⟨hle, rfl⟩⟩
  · have h1 : l < n := by omega
    clear h
    go_enter Tryd.func50, Tryd.ntmps50
    go_wp2_with fail
    go_ret
    exact ⟨Below.refl _ _, .inr ⟨by omega, rfl⟩⟩

set_option maxRecDepth 100000 in
set_option maxHeartbeats 1000000 in
theorem eqProc_same {w : World} {hi hi' : Nat} {x : DProc} {vs vs' : List Value} (h : layProc.see w hi x vs) (h' : layProc.see w hi' x vs') (hhi : hi ≤ w.heap.size) (hhi' : hi' ≤ w.heap.size) (hn : szProc x ≤ 1048576) :
    Calls Tryd.prog 112 #[.agg vs.toArray, .agg vs'.toArray] w (SaysTrue w) := by
  obtain ⟨A0, n0, c0, rfl, ⟨hc0, hm0, s0⟩⟩ := seeProc h
  obtain ⟨A0', n0', c0', rfl, ⟨hc0', hm0', s0'⟩⟩ := seeProc h'
  obtain rfl : n0 = n0' := s0.1.symm.trans s0'.1
  have L0 := Lib.hid s0.1
  have hn0 := hn
  unfold szProc at hn0
  rw [L0.out] at hn0
  have hb0 : Below w.heap.size w ((w.alloc (.cells #[.slice A0 n0 c0] 138)).alloc (.cells #[.slice A0' n0 c0'] 138)) := ((Below.refl _ _).alloc (Nat.le_refl _) _).alloc (by simp) _
  go_enter Tryd.func112, Tryd.ntmps112
  go_wp2_with fail
  refine (eqInstrS_same (s0.below hb0 hhi) (s0'.below hb0 hhi') (by have := hb0.size; omega) (by have := hb0.size; omega) (by omega)).mono ?_
  rintro e w1 ⟨rfl, hb1⟩
  have z1 := hb1.size
  obtain ⟨hcl1, hfz1⟩ := bcell hb1
  have hB1 : Below w.heap.size w w1 := hb0.trans (hb1.mono (by simp; omega))
  simp only [World.size_alloc] at z1
  have hl1a : w.heap.size < w1.heap.size := by omega
  have hl1b : w.heap.size + 1 < w1.heap.size := by omega
  go_wp2_with fail
  go_ret
  exact ⟨rfl, by first | exact hB1 | exact below_drawn hB1 _⟩

set_option maxRecDepth 100000 in
set_option maxHeartbeats 1000000 in
theorem eqProcS_same {A A' : Option Addr} {n c c' hi hi' : Nat} {xs : List DProc} {w : World} (h : SeenR layProc w hi A n xs) (h' : SeenR layProc w hi' A' n xs) (hh : hi ≤ w.heap.size) (hh' : hi' ≤ w.heap.size) (hn : n ≤ 1048576) (hs : (xs.map szProc).sum ≤ 1048576) :
    Calls Tryd.prog 62 #[.slice A n c, .slice A' n c'] w (SaysTrue w) := by
  go_enter Tryd.func62, Tryd.ntmps62
  go_wp2
  go_loopw [5] (fun i wr => ∃ k : Nat, k ≤ n ∧ i = .int .i64 k ∧ Below w.heap.size w wr) (fun i _ => n - (intOf i).toNat)
  case atStart => exact ⟨0, Nat.zero_le _, rfl, Below.refl _ _⟩
  case round =>
    obtain ⟨k, hk, rfl, hb⟩ := hrel
    have z := hb.size
    by_cases hlt : k < n
    · obtain ⟨hx, g, o, vs, rfl, hg, hsee, hc⟩ := (h.below hb hh).at_ hlt
      obtain ⟨hx', g', o', vs', rfl, hg', hsee', hc'⟩ := (h'.below hb hh').at_ hlt
      have hsz : szProc xs[k] ≤ 1048576 := Nat.le_trans (sum_mem_le szProc (List.getElem_mem hx)) hs
      generalize xs[k] = x at *
      have HE := Lib.hid (fun (W : World) (hW : Below wr.heap.size wr W) => eqProc_same (layProc.keep hsee fun k hk => hW.block k (by omega)) (layProc.keep hsee' fun k hk => hW.block k (by omega)) (by have := hW.size; omega) (by have := hW.size; omega) hsz)
      obtain ⟨A0, n0, c0, rfl, ⟨hc0, hm0, s0⟩⟩ := seeProc hsee
      obtain ⟨A0', n0', c0', rfl, ⟨hc0', hm0', s0'⟩⟩ := seeProc hsee'
      have cc0 := hc 0 _ rfl
      have dd0 := hc' 0 _ rfl
      simp only [show layProc.size = 1 from rfl, ← Nat.add_assoc, Nat.add_zero, Nat.mul_one] at cc0 dd0
      clear hc hc' hsee hsee' s0 s0'
      have hi0 : (0 : Int) ≤ (k : Int) := by omega
      have hi1 : (k : Int) < (n : Int) := by omega
      have hb0 : Below wr.heap.size wr wr.drew := (Below.refl _ _).drew
      go_wp2_with fail
      go_region_with (go_at_call 112; refine (HE.out _ hb0).mono ?_; rintro e w1 ⟨rfl, hb1⟩)
      all_goals
        have hbb : Below w.heap.size w w1 := hb.drew.trans (hb1.mono z)
        clear hb1 HE cc0 dd0
        go_wp2_with fail
        go_roundw
        case rel => exact ⟨k + 1, by omega, by go_num, hbb⟩
        case measure => simp [intOf]; omega
    · go_wp2
      go_ret
      exact ⟨rfl, hb⟩

set_option maxRecDepth 100000 in
set_option maxHeartbeats 2000000 in
theorem toProc_any {w : World} {hi : Nat} {x : DProc} {vs : List Value} (h : layProc.see w hi x vs) (hhi : hi ≤ w.heap.size) (hn : szProc x ≤ 1048576) :
    Calls Tryd.prog 100 #[.agg vs.toArray] w (MadeL layProc w x) := by
  obtain ⟨A0, n0, c0, rfl, ⟨hc0, hm0, s0⟩⟩ := seeProc h
  have L0 := Lib.hid s0.1
  have hn0 := hn
  unfold szProc at hn0
  rw [L0.out] at hn0
  have hb0 : Below w.heap.size w (((w.alloc (.cells #[.slice A0 n0 c0] 134)).alloc (.cells #[.slice none 0 0] 138)).alloc (.cells #[.slice none 0 0] 138)) := by go_grown
  go_enter Tryd.func100, Tryd.ntmps100
  go_wp2_with fail
  refine (toInstrS_any (s0.below (B := w.heap.size) ?_ hhi) ?_ (by omega)).mono ?_
  · go_grown
  · simp; omega
  rintro e w1 ⟨B0, e0, rfl, own1, hb1⟩
  have z1 := hb1.size
  simp only [World.size_alloc] at z1 own1
  have hB1 : Below w.heap.size w w1 := Below.trans (by go_grown) (hb1.mono (by simp; omega))
  obtain ⟨hcl1, hfz1⟩ := bcell hb1
  have hl1a : w.heap.size < w1.heap.size := by omega
  have hl1b : w.heap.size + 1 < w1.heap.size := by omega
  have hl1c : w.heap.size + 1 + 1 < w1.heap.size := by omega
  go_wp2_with fail
  refine bodyPost_ret (v := .agg #[.slice B0 n0 e0]) (by simp [results, Tryd.results100, go_sem, hcl1, hl1a, hl1b, hl1c]) rfl ?_
  refine ⟨_, rfl, ?_, ?_⟩
  · refine ownProc (F := _) (OwnR.turned own1 (l := w.heap.size + 1) (r := w.heap.size + 3) ?t0 (fun g hg => .inl (by omega))) ?k0 
    case t0 =>
      repeat (refine Turned.setCell ?_ (by simp) (by simp) _)
      exact Turned.refl _ _ _
    case k0 => intro g hg; simp only [World.size_setCell]; omega
  · repeat (refine Below.setCell ?_ (by dsimp only; omega) _)
    exact hB1

theorem infoProc : (Tryd.prog.info? 138).map (fun i => (i.zero, i.size, i.bytes)) = some (some (.agg #[.slice none 0 0]), 1, 24) := by kernel_rfl

set_option maxRecDepth 100000 in
set_option maxHeartbeats 1000000 in
theorem toProcS_any {w : World} {A : Option Addr} {n c hi : Nat} {xs : List DProc} (h : SeenR layProc w hi A n xs) (hhi : hi ≤ w.heap.size) (hn : n ≤ 1048576) (hs : (xs.map szProc).sum ≤ 1048576) :
    Calls Tryd.prog 56 #[.slice A n c] w (MadeR layProc 138 w n xs) := by
  obtain ⟨i0, hi0, hz0, hz1, hz2⟩ := info_parts infoProc
  have hmk := fun W : World => run_make (P := Tryd.prog) W 51 138 i0 _ Tryd.underlying51 hi0 hz0 .i64 .i64 n n (by omega) (by omega) (by rw [hz2]; omega) (by omega)
  simp only [hz1, Int.toNat_natCast] at hmk
  have HL := Lib.hid h.1
  clear hi0 hz0 hz1 hz2
  go_enter Tryd.func56, Tryd.ntmps56
  go_wp2
  clear hmk
  go_loopw [4] (fun i wr => ∃ k : Nat, k ≤ n ∧ i = .int .i64 k ∧ Part layProc 138 wr w.heap.size n xs k wr.heap.size ∧ Below w.heap.size w wr) (fun i _ => n - (intOf i).toNat)
  case atStart =>
    refine ⟨0, Nat.zero_le _, rfl, ?_, (Below.refl _ _).alloc (Nat.le_refl _) _⟩
    have hm := Own.made (size := 1) (e := 138) w (madeCells #[.slice none 0 0] n) n n (by simp only [maxLen]; omega) (by simp [size_madeCells]) (Nat.le_refl _)
    exact Part.start HL.out hm (by simp)
  case round =>
    obtain ⟨k, hk, rfl, hpart, hb⟩ := hrel
    have z := hb.size
    by_cases hlt : k < n
    · obtain ⟨hx, g, o, vs, rfl, hg, hsee, hcell⟩ := (h.below hb hhi).at_ hlt
      have hsz : szProc xs[k] ≤ 1048576 := Nat.le_trans (sum_mem_le szProc (List.getElem_mem hx)) hs
      have hdk := Lib.hid (List.getElem?_eq_getElem hx)
      generalize xs[k] = x at *
      have HE := Lib.hid (fun (W : World) (hW : Below wr.heap.size wr W) => toProc_any (w := W) (layProc.keep hsee fun k hk => hW.block k (by omega)) (by have := hW.size; omega) hsz)
      obtain ⟨A0, n0, c0, rfl, ⟨hc0, hm0, s0⟩⟩ := seeProc hsee
      have cc0 := hcell 0 _ rfl
      simp only [show layProc.size = 1 from rfl, ← Nat.add_assoc, Nat.add_zero, Nat.mul_one] at cc0
      clear hcell
      go_wp2_with fail
      refine (HE.out _ (Below.refl _ _)).mono ?_
      rintro e w1 ⟨us, rfl, own1, hb1⟩
      have hus := layProc.len (layProc.seen own1 (hi := w1.heap.size) fun g hg => hg.2)
      have hsu := layProc.seen own1 (hi := w1.heap.size) fun g hg => hg.2
      obtain ⟨A0u, n0u, c0u, rfl, ⟨hc0u, hm0u, s0u⟩⟩ := seeProc hsu
      have hp1 := hpart.below hb1
      obtain ⟨⟨v0, ho0⟩, hf0⟩ := hp1.room hlt 0 (by decide)
      have hp2 := hp1.step hdk.out hus own1 (fun g hg => hg)
      have hb2 : Below w.heap.size w w1 := hb.trans (hb1.mono z)
      simp only [show layProc.size = 1 from rfl, ← Nat.add_assoc, Nat.add_zero, Nat.mul_one] at ho0 hf0 hp2
      clear hpart hp1 hb1 HE own1 hus cc0 s0 s0u
      go_wp2_with fail
      go_roundw
      case rel => exact ⟨k + 1, by omega, by go_num, by simpa [putCells] using hp2, by go_grown⟩
      case measure => simp [intOf]; omega
    · go_wp2_with fail
      go_ret
      obtain rfl : k = n := by omega
      exact ⟨_, _, rfl, hpart.done, hb⟩
end Go.Proofs.YtgfkadhojlddpaaDoor
