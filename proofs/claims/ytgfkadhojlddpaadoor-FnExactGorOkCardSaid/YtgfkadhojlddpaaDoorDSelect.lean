
/- Select: how it lies, how it is opened as an argument; the contracts of the laws' helpers over it. Laid by wip/tools/gen.py. -/

import Derived.Test.YtgfkadhojlddpaaDoorDCase

namespace Go.Proofs.YtgfkadhojlddpaaDoor
set_option linter.unusedSimpArgs false
set_option linter.unusedVariables false
open Go.RowKit

structure DSelect where
  fCases : List DCase
  fElse : Int
/-- How it lies: its slices in blocks of their own. -/
def laySelect : Lay DSelect := ((layCase.slice 82).pair Lay.int).via fun x => (x.fCases, x.fElse)
theorem opensSelect : Opens Tryd.prog 30 laySelect :=
  opens_via _ (fun a => ⟨⟨a.1, a.2⟩, rfl⟩) (opens_struct Tryd.underlying30 (by kernel_rfl) (.cons rfl (opens_slice Tryd.underlying28 (by kernel_rfl) (by decide) opensCase) (.one rfl (opens_int Tryd.underlying3 (by kernel_rfl)))))
theorem seeSelect {w : World} {hi : Nat} {x : DSelect} {vs : List Value} (h : laySelect.see w hi x vs) : ∃ A0 n0 c0, vs = [.slice A0 n0 c0, .int .i64 x.fElse] ∧ (n0 ≤ c0 ∧ c0 ≤ maxLen ∧ SeenR layCase w hi A0 n0 x.fCases) ∧ (Lit.int .i64 x.fElse).wf = true := by
  obtain ⟨_, _, rfl, s0, s1⟩ := h
  obtain ⟨A0, n0, c0, rfl, h0⟩ := s0
  obtain ⟨rfl, h1⟩ := s1
  exact ⟨A0, n0, c0, rfl, h0, h1⟩
theorem ownSelect {w : World} {F : Nat → Prop} {x : DSelect} {A0 : Option Addr} {n0 c0 : Nat} {F0 : Nat → Prop} (h0 : OwnR layCase 82 w F0 A0 n0 c0 x.fCases) (h1 : (Lit.int .i64 x.fElse).wf = true) (k0 : ∀ g, F0 g → F g) : laySelect.own w F x [.slice A0 n0 c0, .int .i64 x.fElse] := by
  exact ⟨_, _, F0, (fun _ => False), rfl, ⟨A0, n0, c0, rfl, h0⟩, ⟨rfl, h1⟩, k0, (fun _ h => h.elim), (fun g h h2 => h2)⟩

/-- How much it holds. -/
def szSelect (x : DSelect) : Nat := x.fCases.length

set_option maxRecDepth 100000 in
set_option maxHeartbeats 1000000 in
theorem szSelect_any {w : World} {hi l : Nat} {x : DSelect} {vs : List Value} (h : laySelect.see w hi x vs) (hhi : hi ≤ w.heap.size) (hl : l ≤ 1048576) :
    Calls Tryd.prog 11 #[.agg vs.toArray, .int .i64 (l : Int)] w (SzPost w l (szSelect x)) := by
  obtain ⟨A0, n0, c0, rfl, ⟨hc0, hm0, s0⟩, hw1⟩ := seeSelect h
  have hb0 : Below w.heap.size w (w.alloc (.cells #[.slice A0 n0 c0, .int .i64 x.fElse] 30)) := (Below.refl _ _).alloc (Nat.le_refl _) _
  have hz0 : w.heap.size + 1 ≤ (w.alloc (.cells #[.slice A0 n0 c0, .int .i64 x.fElse] 30)).heap.size := by simp
  go_enter Tryd.func11, Tryd.ntmps11
  have L0 := Lib.hid s0.1
  go_wp2_with fail
  refine (szCaseS_any (l := l) (by omega) (Nat.le_trans hc0 hm0)).mono ?_
  rintro e w1 ⟨hb1, hcase⟩
  have z1 := hb1.size
  obtain ⟨hcl1, hfz1⟩ := bcell hb1
  simp only [World.size_alloc] at z1
  have hl1a : w.heap.size < w1.heap.size := by omega
  have hB1 : Below w.heap.size w w1 := hb0.trans (hb1.mono (by simp))
  rcases hcase with ⟨h10, rfl⟩ | ⟨h10, rfl⟩
  · go_wp2_with fail
    go_ret
    exact ⟨hB1, .inl ⟨by unfold szSelect; rw [L0.out]; omega, by unfold szSelect; rw [L0.out]; go_num⟩⟩
  · go_wp2_with fail
    go_ret
    exact ⟨hB1, .inr ⟨by unfold szSelect; rw [L0.out]; omega, rfl⟩⟩

set_option maxRecDepth 100000 in
set_option maxHeartbeats 1000000 in
theorem szSelectS_any {w : World} {hi n c l : Nat} {A : Option Addr} {ds : List DSelect} (h : SeenR laySelect w hi A n ds) (hhi : hi ≤ w.heap.size) (hl : l ≤ 1048576) (hn : n ≤ maxLen) :
    Calls Tryd.prog 49 #[.slice A n c, .int .i64 (l : Int)] w (SzPost w l (n + (ds.map szSelect).sum)) := by
  unfold maxLen at hn
  have HL := Lib.hid h.1
  by_cases h0 : n ≤ l
  · go_enter Tryd.func49, Tryd.ntmps49
    go_wp2_with fail
    go_loopw [1, 5] (fun q i wr => ∃ k : Nat, k ≤ n ∧ i = .int .i64 k ∧ n + ((ds.take k).map szSelect).sum ≤ l ∧ q = .int .i64 ((l - (n + ((ds.take k).map szSelect).sum) : Nat) : Int) ∧ Below w.heap.size w wr) (fun _ i _ => n - (intOf i).toNat)
    case atStart => exact ⟨0, Nat.zero_le _, rfl, by simpa using h0, by simp; go_num, Below.refl _ _⟩
    case round =>
      obtain ⟨k, hk, rfl, hle, rfl, hb⟩ := hrel
      have z := hb.size
      by_cases hlt : k < n
      · obtain ⟨hx, g, o, vs, rfl, hg, hsee, hcell⟩ := (h.below hb hhi).at_ hlt
        have hsee0 := hsee
        have htt := Lib.hid (sum_take_succ (f := szSelect) (List.getElem?_eq_getElem hx))
        have htl := sum_take_le szSelect ds (k + 1)
        rw [htt.out] at htl
        generalize ds[k] = d at *
        obtain ⟨A0, n0, c0, rfl, ⟨hc0, hm0, s0⟩, hw1⟩ := seeSelect hsee
        have cc0 := hcell 0 _ rfl
        have cc1 := hcell 1 _ rfl
        simp only [show laySelect.size = 2 from rfl, ← Nat.add_assoc, Nat.add_zero, Nat.mul_one] at cc0 cc1
        clear hcell hsee s0
        generalize hT : ((ds.take k).map szSelect).sum = S at *
        have HT := Lib.hid hT
        clear hT
        go_wp2_with fail
        refine (szSelect_any (l := l - (n + S)) hsee0 (by omega) (by omega)).mono ?_
        rintro e w1 ⟨hb1, hcase⟩
        have hbb : Below w.heap.size w w1 := hb.trans (hb1.mono z)
        clear cc0 cc1 hb1 hsee0
        rcases hcase with ⟨h1, rfl⟩ | ⟨h1, rfl⟩
        · go_wp2_with fail
          go_roundw
          case rel => exact ⟨k + 1, by omega, by go_num, by rw [htt.out]; omega, by rw [htt.out]; go_num, hbb⟩
          case measure => simp [intOf]; omega
        · go_wp2_with fail
          go_ret
          exact ⟨hbb, .inr ⟨by omega, rfl⟩⟩
      · go_wp2_with fail
        go_ret
        obtain rfl : k = n := by omega
        have htk : ds.take k = ds := List.take_of_length_le (by rw [HL.out]; exact Nat.le_refl _)
        rw [htk] at hle ⊢
        exact ⟨hb, .inl ⟨hle, rfl⟩⟩
  · have h1 : l < n := by omega
    clear h
    go_enter Tryd.func49, Tryd.ntmps49
    go_wp2_with fail
    go_ret
    exact ⟨Below.refl _ _, .inr ⟨by omega, rfl⟩⟩

set_option maxRecDepth 100000 in
set_option maxHeartbeats 1000000 in
theorem eqSelect_same {w : World} {hi hi' : Nat} {x : DSelect} {vs vs' : List Value} (h : laySelect.see w hi x vs) (h' : laySelect.see w hi' x vs') (hhi : hi ≤ w.heap.size) (hhi' : hi' ≤ w.heap.size) (hn : szSelect x ≤ 1048576) :
    Calls Tryd.prog 15 #[.agg vs.toArray, .agg vs'.toArray] w (SaysTrue w) := by
  obtain ⟨A0, n0, c0, rfl, ⟨hc0, hm0, s0⟩, hw1⟩ := seeSelect h
  obtain ⟨A0', n0', c0', rfl, ⟨hc0', hm0', s0'⟩, hw1'⟩ := seeSelect h'
  obtain rfl : n0 = n0' := s0.1.symm.trans s0'.1
  have L0 := Lib.hid s0.1
  have hn0 := hn
  unfold szSelect at hn0
  rw [L0.out] at hn0
  have hb0 : Below w.heap.size w ((w.alloc (.cells #[.slice A0 n0 c0, .int .i64 x.fElse] 35)).alloc (.cells #[.slice A0' n0 c0', .int .i64 x.fElse] 35)) := ((Below.refl _ _).alloc (Nat.le_refl _) _).alloc (by simp) _
  go_enter Tryd.func15, Tryd.ntmps15
  go_wp2_with fail
  refine (eqCaseS_same (s0.below hb0 hhi) (s0'.below hb0 hhi') (by have := hb0.size; omega) (by have := hb0.size; omega) (by omega)).mono ?_
  rintro e w1 ⟨rfl, hb1⟩
  have z1 := hb1.size
  obtain ⟨hcl1, hfz1⟩ := bcell hb1
  have hB1 : Below w.heap.size w w1 := hb0.trans (hb1.mono (by simp; omega))
  simp only [World.size_alloc] at z1
  have hl1a : w.heap.size < w1.heap.size := by omega
  have hl1b : w.heap.size + 1 < w1.heap.size := by omega
  go_wp2_with fail
  (try (go_quiet (fail)))
  go_wp2_with fail
  go_ret
  exact ⟨rfl, by first | exact hB1 | exact below_drawn hB1 _⟩

set_option maxRecDepth 100000 in
set_option maxHeartbeats 1000000 in
theorem eqSelectS_same {A A' : Option Addr} {n c c' hi hi' : Nat} {xs : List DSelect} {w : World} (h : SeenR laySelect w hi A n xs) (h' : SeenR laySelect w hi' A' n xs) (hh : hi ≤ w.heap.size) (hh' : hi' ≤ w.heap.size) (hn : n ≤ 1048576) (hs : (xs.map szSelect).sum ≤ 1048576) :
    Calls Tryd.prog 61 #[.slice A n c, .slice A' n c'] w (SaysTrue w) := by
  go_enter Tryd.func61, Tryd.ntmps61
  go_wp2
  go_loopw [5] (fun i wr => ∃ k : Nat, k ≤ n ∧ i = .int .i64 k ∧ Below w.heap.size w wr) (fun i _ => n - (intOf i).toNat)
  case atStart => exact ⟨0, Nat.zero_le _, rfl, Below.refl _ _⟩
  case round =>
    obtain ⟨k, hk, rfl, hb⟩ := hrel
    have z := hb.size
    by_cases hlt : k < n
    · obtain ⟨hx, g, o, vs, rfl, hg, hsee, hc⟩ := (h.below hb hh).at_ hlt
      obtain ⟨hx', g', o', vs', rfl, hg', hsee', hc'⟩ := (h'.below hb hh').at_ hlt
      have hsz : szSelect xs[k] ≤ 1048576 := Nat.le_trans (sum_mem_le szSelect (List.getElem_mem hx)) hs
      generalize xs[k] = x at *
      have HE := Lib.hid (fun (W : World) (hW : Below wr.heap.size wr W) => eqSelect_same (laySelect.keep hsee fun k hk => hW.block k (by omega)) (laySelect.keep hsee' fun k hk => hW.block k (by omega)) (by have := hW.size; omega) (by have := hW.size; omega) hsz)
      obtain ⟨A0, n0, c0, rfl, ⟨hc0, hm0, s0⟩, hw1⟩ := seeSelect hsee
      obtain ⟨A0', n0', c0', rfl, ⟨hc0', hm0', s0'⟩, hw1'⟩ := seeSelect hsee'
      have cc0 := hc 0 _ rfl
      have dd0 := hc' 0 _ rfl
      have cc1 := hc 1 _ rfl
      have dd1 := hc' 1 _ rfl
      simp only [show laySelect.size = 2 from rfl, ← Nat.add_assoc, Nat.add_zero, Nat.mul_one] at cc0 cc1 dd0 dd1
      clear hc hc' hsee hsee' s0 s0'
      have hi0 : (0 : Int) ≤ (k : Int) := by omega
      have hi1 : (k : Int) < (n : Int) := by omega
      have hb0 : Below wr.heap.size wr wr.drew := (Below.refl _ _).drew
      go_wp2_with fail
      go_region_with (go_at_call 15; refine (HE.out _ hb0).mono ?_; rintro e w1 ⟨rfl, hb1⟩)
      all_goals
        have hbb : Below w.heap.size w w1 := hb.drew.trans (hb1.mono z)
        clear hb1 HE cc0 cc1 dd0 dd1
        go_wp2_with fail
        go_roundw
        case rel => exact ⟨k + 1, by omega, by go_num, hbb⟩
        case measure => simp [intOf]; omega
    · go_wp2
      go_ret
      exact ⟨rfl, hb⟩

set_option maxRecDepth 100000 in
set_option maxHeartbeats 2000000 in
theorem toSelect_any {w : World} {hi : Nat} {x : DSelect} {vs : List Value} (h : laySelect.see w hi x vs) (hhi : hi ≤ w.heap.size) (hn : szSelect x ≤ 1048576) :
    Calls Tryd.prog 13 #[.agg vs.toArray] w (MadeL laySelect w x) := by
  obtain ⟨A0, n0, c0, rfl, ⟨hc0, hm0, s0⟩, hw1⟩ := seeSelect h
  have L0 := Lib.hid s0.1
  have hn0 := hn
  unfold szSelect at hn0
  rw [L0.out] at hn0
  have hb0 : Below w.heap.size w (((w.alloc (.cells #[.slice A0 n0 c0, .int .i64 x.fElse] 30)).alloc (.cells #[.slice none 0 0, .int .i64 0] 35)).alloc (.cells #[.slice none 0 0, .int .i64 0] 35)) := by go_grown
  go_enter Tryd.func13, Tryd.ntmps13
  go_wp2_with fail
  refine (toCaseS_any (s0.below (B := w.heap.size) ?_ hhi) ?_ (by omega)).mono ?_
  · go_grown
  · simp; omega
  rintro e w1 ⟨B0, e0, rfl, own1, hb1⟩
  have z1 := hb1.size
  simp only [World.size_alloc] at z1 own1
  have hB1 : Below w.heap.size w w1 := Below.trans (by go_grown) (hb1.mono (by simp; omega))
  obtain ⟨hcl1, hfz1⟩ := bcell hb1
  have hl1a : w.heap.size < w1.heap.size := by omega
  have hl1b : w.heap.size + 1 < w1.heap.size := by omega
  have hl1c : w.heap.size + 1 + 1 < w1.heap.size := by omega
  go_wp2_with fail
  refine bodyPost_ret (v := .agg #[.slice B0 n0 e0, .int .i64 x.fElse]) (by simp [results, Tryd.results13, go_sem, hcl1, hl1a, hl1b, hl1c]) rfl ?_
  refine ⟨_, rfl, ?_, ?_⟩
  · refine ownSelect (F := _) (OwnR.turned own1 (l := w.heap.size + 1) (r := w.heap.size + 3) ?t0 (fun g hg => .inl (by omega))) hw1 ?k0 
    case t0 =>
      repeat (refine Turned.setCell ?_ (by simp) (by simp) _)
      exact Turned.refl _ _ _
    case k0 => intro g hg; simp only [World.size_setCell]; omega
  · repeat (refine Below.setCell ?_ (by dsimp only; omega) _)
    exact hB1

theorem infoSelect : (Tryd.prog.info? 35).map (fun i => (i.zero, i.size, i.bytes)) = some (some (.agg #[.slice none 0 0, .int .i64 0]), 2, 32) := by kernel_rfl

set_option maxRecDepth 100000 in
set_option maxHeartbeats 1000000 in
theorem toSelectS_any {w : World} {A : Option Addr} {n c hi : Nat} {xs : List DSelect} (h : SeenR laySelect w hi A n xs) (hhi : hi ≤ w.heap.size) (hn : n ≤ 1048576) (hs : (xs.map szSelect).sum ≤ 1048576) :
    Calls Tryd.prog 55 #[.slice A n c] w (MadeR laySelect 35 w n xs) := by
  obtain ⟨i0, hi0, hz0, hz1, hz2⟩ := info_parts infoSelect
  have hmk := fun W : World => run_make (P := Tryd.prog) W 50 35 i0 _ Tryd.underlying50 hi0 hz0 .i64 .i64 n n (by omega) (by omega) (by rw [hz2]; omega) (by omega)
  simp only [hz1, Int.toNat_natCast] at hmk
  have HL := Lib.hid h.1
  clear hi0 hz0 hz1 hz2
  go_enter Tryd.func55, Tryd.ntmps55
  go_wp2
  clear hmk
  go_loopw [4] (fun i wr => ∃ k : Nat, k ≤ n ∧ i = .int .i64 k ∧ Part laySelect 35 wr w.heap.size n xs k wr.heap.size ∧ Below w.heap.size w wr) (fun i _ => n - (intOf i).toNat)
  case atStart =>
    refine ⟨0, Nat.zero_le _, rfl, ?_, (Below.refl _ _).alloc (Nat.le_refl _) _⟩
    have hm := Own.made (size := 2) (e := 35) w (madeCells #[.slice none 0 0, .int .i64 0] (n * 2)) n n (by simp only [maxLen]; omega) (by simp [size_madeCells]) (Nat.le_refl _)
    exact Part.start HL.out hm (by simp)
  case round =>
    obtain ⟨k, hk, rfl, hpart, hb⟩ := hrel
    have z := hb.size
    by_cases hlt : k < n
    · obtain ⟨hx, g, o, vs, rfl, hg, hsee, hcell⟩ := (h.below hb hhi).at_ hlt
      have hsz : szSelect xs[k] ≤ 1048576 := Nat.le_trans (sum_mem_le szSelect (List.getElem_mem hx)) hs
      have hdk := Lib.hid (List.getElem?_eq_getElem hx)
      generalize xs[k] = x at *
      have HE := Lib.hid (fun (W : World) (hW : Below wr.heap.size wr W) => toSelect_any (w := W) (laySelect.keep hsee fun k hk => hW.block k (by omega)) (by have := hW.size; omega) hsz)
      obtain ⟨A0, n0, c0, rfl, ⟨hc0, hm0, s0⟩, hw1⟩ := seeSelect hsee
      have cc0 := hcell 0 _ rfl
      have cc1 := hcell 1 _ rfl
      simp only [show laySelect.size = 2 from rfl, ← Nat.add_assoc, Nat.add_zero, Nat.mul_one] at cc0 cc1
      clear hcell
      go_wp2_with fail
      refine (HE.out _ (Below.refl _ _)).mono ?_
      rintro e w1 ⟨us, rfl, own1, hb1⟩
      have hus := laySelect.len (laySelect.seen own1 (hi := w1.heap.size) fun g hg => hg.2)
      have hsu := laySelect.seen own1 (hi := w1.heap.size) fun g hg => hg.2
      obtain ⟨A0u, n0u, c0u, rfl, ⟨hc0u, hm0u, s0u⟩, hw1u⟩ := seeSelect hsu
      have hp1 := hpart.below hb1
      obtain ⟨⟨v0, ho0⟩, hf0⟩ := hp1.room hlt 0 (by decide)
      obtain ⟨⟨v1, ho1⟩, hf1⟩ := hp1.room hlt 1 (by decide)
      have hp2 := hp1.step hdk.out hus own1 (fun g hg => hg)
      have hb2 : Below w.heap.size w w1 := hb.trans (hb1.mono z)
      simp only [show laySelect.size = 2 from rfl, ← Nat.add_assoc, Nat.add_zero, Nat.mul_one] at ho0 hf0 ho1 hf1 hp2
      clear hpart hp1 hb1 HE own1 hus cc0 cc1 s0 s0u
      go_wp2_with fail
      go_roundw
      case rel => exact ⟨k + 1, by omega, by go_num, by simpa [putCells] using hp2, by go_grown⟩
      case measure => simp [intOf]; omega
    · go_wp2_with fail
      go_ret
      obtain rfl : k = n := by omega
      exact ⟨_, _, rfl, hpart.done, hb⟩
end Go.Proofs.YtgfkadhojlddpaaDoor
