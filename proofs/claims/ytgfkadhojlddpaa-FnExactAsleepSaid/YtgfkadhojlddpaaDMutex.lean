
/- Mutex: how it lies, how it is opened as an argument; the contracts of the laws' helpers over it. Laid by wip/tools/gen.py. -/

import Derived.Test.YtgfkadhojlddpaaTail

import Derived.Test.YtgfkadhojlddpaaDInt

namespace Go.Proofs.Ytgfkadhojlddpaa
set_option linter.unusedSimpArgs false
set_option linter.unusedVariables false
open Go.RowKit

structure DMutex where
  fOwner : Int
  fWait : List Int
/-- How it lies: its slices in blocks of their own. -/
def layMutex : Lay DMutex := (Lay.int.pair (Lay.int.tail 3)).via fun x => (x.fOwner, x.fWait)
theorem opensMutex : Opens Try.prog 64 layMutex :=
  opens_via _ (fun a => ⟨⟨a.1, a.2⟩, rfl⟩) (opens_struct Try.underlying64 (by kernel_rfl) (.cons rfl (opens_int Try.underlying3 (by kernel_rfl)) (.one rfl (opens_tail Try.underlying28 (by kernel_rfl) (by decide) (opens_int Try.underlying3 (by kernel_rfl))))))
theorem seeMutex {w : World} {hi : Nat} {x : DMutex} {vs : List Value} (h : layMutex.see w hi x vs) : ∃ A1 n1 c1, vs = [.int .i64 x.fOwner, .slice A1 n1 c1] ∧ (Lit.int .i64 x.fOwner).wf = true ∧ (n1 ≤ c1 ∧ c1 ≤ maxLen ∧ SeenR Lay.int w hi A1 n1 x.fWait) := by
  obtain ⟨_, _, rfl, s0, s1⟩ := h
  obtain ⟨rfl, h0⟩ := s0
  obtain ⟨A1, n1, c1, rfl, h1⟩ := s1
  exact ⟨A1, n1, c1, rfl, h0, h1⟩
theorem ownMutex {w : World} {F : Nat → Prop} {x : DMutex} (h0 : (Lit.int .i64 x.fOwner).wf = true) {A1 : Option Addr} {n1 c1 : Nat} {F1 : Nat → Prop} (h1 : TailR Lay.int 3 w F1 A1 n1 c1 x.fWait) (k1 : ∀ g, F1 g → F g) : layMutex.own w F x [.int .i64 x.fOwner, .slice A1 n1 c1] := by
  exact ⟨_, _, (fun _ => False), (fun g => F1 g), rfl, ⟨rfl, h0⟩, ⟨A1, n1, c1, rfl, h1⟩, (fun _ h => h.elim), (fun g h => by first | exact k1 g h), (fun g h => h.elim)⟩

/-- How much it holds. -/
def szMutex (x : DMutex) : Nat := x.fWait.length

set_option maxRecDepth 100000 in
set_option maxHeartbeats 1000000 in
theorem szMutex_any {w : World} {hi l : Nat} {x : DMutex} {vs : List Value} (h : layMutex.see w hi x vs) (hhi : hi ≤ w.heap.size) (hl : l ≤ 1048576) :
    Calls Try.prog 32 #[.agg vs.toArray, .int .i64 (l : Int)] w (SzPost w l (szMutex x)) := by
  obtain ⟨A1, n1, c1, rfl, hw0, ⟨hc1, hm1, s1⟩⟩ := seeMutex h
  have hb0 : Below w.heap.size w (w.alloc (.cells #[.int .i64 x.fOwner, .slice A1 n1 c1] 64)) := (Below.refl _ _).alloc (Nat.le_refl _) _
  have hz0 : w.heap.size + 1 ≤ (w.alloc (.cells #[.int .i64 x.fOwner, .slice A1 n1 c1] 64)).heap.size := by simp
  go_enter Try.func32, Try.ntmps32
  have L1 := Lib.hid s1.1
  go_wp2_with fail
  refine (szIntS_any (l := l) (by omega) (Nat.le_trans hc1 hm1)).mono ?_
  rintro e w1 ⟨hb1, hcase⟩
  have z1 := hb1.size
  obtain ⟨hcl1, hfz1⟩ := bcell hb1
  simp only [World.size_alloc] at z1
  have hl1a : w.heap.size < w1.heap.size := by omega
  have hB1 : Below w.heap.size w w1 := hb0.trans (hb1.mono (by simp))
  rcases hcase with ⟨h10, rfl⟩ | ⟨h10, rfl⟩
  · go_wp2_with fail
    go_ret
    exact ⟨hB1, .inl ⟨by unfold szMutex; rw [L1.out]; omega, by unfold szMutex; rw [L1.out]; go_num⟩⟩
  · go_wp2_with fail
    go_ret
    exact ⟨hB1, .inr ⟨by unfold szMutex; rw [L1.out]; omega, rfl⟩⟩

set_option maxRecDepth 100000 in
set_option maxHeartbeats 1000000 in
theorem szMutexS_any {w : World} {hi n c l : Nat} {A : Option Addr} {ds : List DMutex} (h : SeenR layMutex w hi A n ds) (hhi : hi ≤ w.heap.size) (hl : l ≤ 1048576) (hn : n ≤ maxLen) :
    Calls Try.prog 18 #[.slice A n c, .int .i64 (l : Int)] w (SzPost w l (n + (ds.map szMutex).sum)) := by
  unfold maxLen at hn
  have HL := Lib.hid h.1
  by_cases h0 : n ≤ l
  · go_enter Try.func18, Try.ntmps18
    go_wp2_with fail
    go_loopw [1, 5] (fun q i wr => ∃ k : Nat, k ≤ n ∧ i = .int .i64 k ∧ n + ((ds.take k).map szMutex).sum ≤ l ∧ q = .int .i64 ((l - (n + ((ds.take k).map szMutex).sum) : Nat) : Int) ∧ Below w.heap.size w wr) (fun _ i _ => n - (intOf i).toNat)
    case atStart => exact ⟨0, Nat.zero_le _, rfl, by simpa using h0, by simp; go_num, Below.refl _ _⟩
    case round =>
      obtain ⟨k, hk, rfl, hle, rfl, hb⟩ := hrel
      have z := hb.size
      by_cases hlt : k < n
      · obtain ⟨hx, g, o, vs, rfl, hg, hsee, hcell⟩ := (h.below hb hhi).at_ hlt
        have hsee0 := hsee
        have htt := Lib.hid (sum_take_succ (f := szMutex) (List.getElem?_eq_getElem hx))
        have htl := sum_take_le szMutex ds (k + 1)
        rw [htt.out] at htl
        generalize ds[k] = d at *
        obtain ⟨A1, n1, c1, rfl, hw0, ⟨hc1, hm1, s1⟩⟩ := seeMutex hsee
        have cc0 := hcell 0 _ rfl
        have cc1 := hcell 1 _ rfl
        simp only [show layMutex.size = 2 from rfl, ← Nat.add_assoc, Nat.add_zero, Nat.mul_one] at cc0 cc1
        clear hcell hsee s1
        generalize hT : ((ds.take k).map szMutex).sum = S at *
        have HT := Lib.hid hT
        clear hT
        go_wp2_with fail
        refine (szMutex_any (l := l - (n + S)) hsee0 (by omega) (by omega)).mono ?_
        rintro e w1 ⟨hb1, hcase⟩
        have hbb : Below w.heap.size w w1 := hb.trans (hb1.mono z)
        clear cc0 cc1 hb1 hsee0
        rcases hcase with ⟨h1, rfl⟩ | ⟨h1, rfl⟩
        · go_wp2_with fail
          go_roundw
          case rel => exact ⟨k + 1, by omega, by go_num, by rw [htt.out]; omega, by rw [htt.out]; go_num, hbb⟩
          case measure => simp [intOf]; omega
        · go_wp2_with fail
          go_ret
          exact ⟨hbb, .inr ⟨by omega, rfl⟩⟩
      · go_wp2_with fail
        go_ret
        obtain rfl : k = n := by omega
        have htk : ds.take k = ds := List.take_of_length_le (by rw [HL.out]; exact Nat.le_refl _)
        rw [htk] at hle ⊢
        exact ⟨hb, .inl ⟨hle, rfl⟩⟩
  · have h1 : l < n := by omega
    clear h
    go_enter Try.func18, Try.ntmps18
    go_wp2_with fail
    go_ret
    exact ⟨Below.refl _ _, .inr ⟨by omega, rfl⟩⟩

set_option maxRecDepth 100000 in
set_option maxHeartbeats 1000000 in
theorem eqMutex_same {w : World} {hi hi' : Nat} {x : DMutex} {vs vs' : List Value} (h : layMutex.see w hi x vs) (h' : layMutex.see w hi' x vs') (hhi : hi ≤ w.heap.size) (hhi' : hi' ≤ w.heap.size) (hn : szMutex x ≤ 1048580) :
    Calls Try.prog 38 #[.agg vs.toArray, .agg vs'.toArray] w (SaysTrue w) := by
  obtain ⟨A1, n1, c1, rfl, hw0, ⟨hc1, hm1, s1⟩⟩ := seeMutex h
  obtain ⟨A1', n1', c1', rfl, hw0', ⟨hc1', hm1', s1'⟩⟩ := seeMutex h'
  obtain rfl : n1 = n1' := s1.1.symm.trans s1'.1
  have L1 := Lib.hid s1.1
  have hn0 := hn
  unfold szMutex at hn0
  rw [L1.out] at hn0
  have hb0 : Below w.heap.size w ((w.alloc (.cells #[.int .i64 x.fOwner, .slice A1 n1 c1] 73)).alloc (.cells #[.int .i64 x.fOwner, .slice A1' n1 c1'] 73)) := ((Below.refl _ _).alloc (Nat.le_refl _) _).alloc (by simp) _
  go_enter Try.func38, Try.ntmps38
  go_wp2_with fail
  (try (go_quiet (fail)))
  go_wp2_with fail
  refine (eqIntS_same (s1.below hb0 hhi) (s1'.below hb0 hhi')  (by omega)).mono ?_
  rintro e w1 ⟨rfl, hb1⟩
  have z1 := hb1.size
  obtain ⟨hcl1, hfz1⟩ := bcell hb1
  have hB1 : Below w.heap.size w w1 := hb0.trans (hb1.mono (by simp; omega))
  simp only [World.size_alloc] at z1
  have hl1a : w.heap.size < w1.heap.size := by omega
  have hl1b : w.heap.size + 1 < w1.heap.size := by omega
  go_wp2_with fail
  go_ret
  exact ⟨rfl, by first | exact hB1 | exact below_drawn hB1 _⟩

set_option maxRecDepth 100000 in
set_option maxHeartbeats 1000000 in
theorem eqMutexS_same {A A' : Option Addr} {n c c' hi hi' : Nat} {xs : List DMutex} {w : World} (h : SeenR layMutex w hi A n xs) (h' : SeenR layMutex w hi' A' n xs) (hh : hi ≤ w.heap.size) (hh' : hi' ≤ w.heap.size) (hn : n ≤ 1048580) (hs : (xs.map szMutex).sum ≤ 1048580) :
    Calls Try.prog 26 #[.slice A n c, .slice A' n c'] w (SaysTrue w) := by
  go_enter Try.func26, Try.ntmps26
  go_wp2
  go_loopw [5] (fun i wr => ∃ k : Nat, k ≤ n ∧ i = .int .i64 k ∧ Below w.heap.size w wr) (fun i _ => n - (intOf i).toNat)
  case atStart => exact ⟨0, Nat.zero_le _, rfl, Below.refl _ _⟩
  case round =>
    obtain ⟨k, hk, rfl, hb⟩ := hrel
    have z := hb.size
    by_cases hlt : k < n
    · obtain ⟨hx, g, o, vs, rfl, hg, hsee, hc⟩ := (h.below hb hh).at_ hlt
      obtain ⟨hx', g', o', vs', rfl, hg', hsee', hc'⟩ := (h'.below hb hh').at_ hlt
      have hsz : szMutex xs[k] ≤ 1048580 := Nat.le_trans (sum_mem_le szMutex (List.getElem_mem hx)) hs
      generalize xs[k] = x at *
      have HE := Lib.hid (fun (W : World) (hW : Below wr.heap.size wr W) => eqMutex_same (layMutex.keep hsee fun k hk => hW.block k (by omega)) (layMutex.keep hsee' fun k hk => hW.block k (by omega)) (by have := hW.size; omega) (by have := hW.size; omega) hsz)
      obtain ⟨A1, n1, c1, rfl, hw0, ⟨hc1, hm1, s1⟩⟩ := seeMutex hsee
      obtain ⟨A1', n1', c1', rfl, hw0', ⟨hc1', hm1', s1'⟩⟩ := seeMutex hsee'
      have cc0 := hc 0 _ rfl
      have dd0 := hc' 0 _ rfl
      have cc1 := hc 1 _ rfl
      have dd1 := hc' 1 _ rfl
      simp only [show layMutex.size = 2 from rfl, ← Nat.add_assoc, Nat.add_zero, Nat.mul_one] at cc0 cc1 dd0 dd1
      clear hc hc' hsee hsee' s1 s1'
      have hi0 : (0 : Int) ≤ (k : Int) := by omega
      have hi1 : (k : Int) < (n : Int) := by omega
      have hb0 : Below wr.heap.size wr wr.drew := (Below.refl _ _).drew
      go_wp2_with fail
      go_region_with (go_at_call 38; refine (HE.out _ hb0).mono ?_; rintro e w1 ⟨rfl, hb1⟩)
      all_goals
        have hbb : Below w.heap.size w w1 := hb.drew.trans (hb1.mono z)
        clear hb1 HE cc0 cc1 dd0 dd1
        go_wp2_with fail
        go_roundw
        case rel => exact ⟨k + 1, by omega, by go_num, hbb⟩
        case measure => simp [intOf]; omega
    · go_wp2
      go_ret
      exact ⟨rfl, hb⟩

set_option maxRecDepth 100000 in
set_option maxHeartbeats 2000000 in
theorem toMutex_any {w : World} {hi : Nat} {x : DMutex} {vs : List Value} (h : layMutex.see w hi x vs) (hhi : hi ≤ w.heap.size) (hn : szMutex x ≤ 1048576) :
    Calls Try.prog 35 #[.agg vs.toArray] w (MadeL layMutex w x) := by
  obtain ⟨A1, n1, c1, rfl, hw0, ⟨hc1, hm1, s1⟩⟩ := seeMutex h
  have L1 := Lib.hid s1.1
  have hn0 := hn
  unfold szMutex at hn0
  rw [L1.out] at hn0
  have hb0 : Below w.heap.size w (((w.alloc (.cells #[.int .i64 x.fOwner, .slice A1 n1 c1] 64)).alloc (.cells #[.int .i64 0, .slice none 0 0] 73)).alloc (.cells #[.int .i64 0, .slice none 0 0] 73)) := by go_grown
  go_enter Try.func35, Try.ntmps35
  go_wp2_with fail
  refine (toIntS_any (s1.below (B := w.heap.size) ?_ hhi) ?_ (by omega)).mono ?_
  · go_grown
  · simp; omega
  rintro e w1 ⟨B1, e1, rfl, own1, hb1⟩
  have z1 := hb1.size
  simp only [World.size_alloc] at z1 own1
  have hB1 : Below w.heap.size w w1 := Below.trans (by go_grown) (hb1.mono (by simp; omega))
  obtain ⟨hcl1, hfz1⟩ := bcell hb1
  have hl1a : w.heap.size < w1.heap.size := by omega
  have hl1b : w.heap.size + 1 < w1.heap.size := by omega
  have hl1c : w.heap.size + 1 + 1 < w1.heap.size := by omega
  go_wp2_with fail
  refine bodyPost_ret (v := .agg #[.int .i64 x.fOwner, .slice B1 n1 e1]) (by simp [results, Try.results35, go_sem, hcl1, hl1a, hl1b, hl1c]) rfl ?_
  refine ⟨_, rfl, ?_, ?_⟩
  · refine ownMutex (F := _) hw0 (TailR.of (OwnR.turned own1 (l := w.heap.size + 1) (r := w.heap.size + 3) ?t1 (fun g hg => .inl (by omega)))) ?k1 
    case t1 =>
      repeat (refine Turned.setCell ?_ (by simp) (by simp) _)
      exact Turned.refl _ _ _
    case k1 => intro g hg; simp only [World.size_setCell]; omega
  · repeat (refine Below.setCell ?_ (by dsimp only; omega) _)
    exact hB1

theorem infoMutex : (Try.prog.info? 73).map (fun i => (i.zero, i.size, i.bytes)) = some (some (.agg #[.int .i64 0, .slice none 0 0]), 2, 32) := by kernel_rfl

set_option maxRecDepth 100000 in
set_option maxHeartbeats 1000000 in
theorem toMutexS_any {w : World} {A : Option Addr} {n c hi : Nat} {xs : List DMutex} (h : SeenR layMutex w hi A n xs) (hhi : hi ≤ w.heap.size) (hn : n ≤ 1048576) (hs : (xs.map szMutex).sum ≤ 1048576) :
    Calls Try.prog 22 #[.slice A n c] w (MadeR layMutex 73 w n xs) := by
  obtain ⟨i0, hi0, hz0, hz1, hz2⟩ := info_parts infoMutex
  have hmk := fun W : World => run_make (P := Try.prog) W 32 73 i0 _ Try.underlying32 hi0 hz0 .i64 .i64 n n (by omega) (by omega) (by rw [hz2]; omega) (by omega)
  simp only [hz1, Int.toNat_natCast] at hmk
  have HL := Lib.hid h.1
  clear hi0 hz0 hz1 hz2
  go_enter Try.func22, Try.ntmps22
  go_wp2
  clear hmk
  go_loopw [4] (fun i wr => ∃ k : Nat, k ≤ n ∧ i = .int .i64 k ∧ Part layMutex 73 wr w.heap.size n xs k wr.heap.size ∧ Below w.heap.size w wr) (fun i _ => n - (intOf i).toNat)
  case atStart =>
    refine ⟨0, Nat.zero_le _, rfl, ?_, (Below.refl _ _).alloc (Nat.le_refl _) _⟩
    have hm := Own.made (size := 2) (e := 73) w (madeCells #[.int .i64 0, .slice none 0 0] (n * 2)) n n (by simp only [maxLen]; omega) (by simp [size_madeCells]) (Nat.le_refl _)
    exact Part.start HL.out hm (by simp)
  case round =>
    obtain ⟨k, hk, rfl, hpart, hb⟩ := hrel
    have z := hb.size
    by_cases hlt : k < n
    · obtain ⟨hx, g, o, vs, rfl, hg, hsee, hcell⟩ := (h.below hb hhi).at_ hlt
      have hsz : szMutex xs[k] ≤ 1048576 := Nat.le_trans (sum_mem_le szMutex (List.getElem_mem hx)) hs
      have hdk := Lib.hid (List.getElem?_eq_getElem hx)
      generalize xs[k] = x at *
      have HE := Lib.hid (fun (W : World) (hW : Below wr.heap.size wr W) => toMutex_any (w := W) (layMutex.keep hsee fun k hk => hW.block k (by omega)) (by have := hW.size; omega) hsz)
      obtain ⟨A1, n1, c1, rfl, hw0, ⟨hc1, hm1, s1⟩⟩ := seeMutex hsee
      have cc0 := hcell 0 _ rfl
      have cc1 := hcell 1 _ rfl
      simp only [show layMutex.size = 2 from rfl, ← Nat.add_assoc, Nat.add_zero, Nat.mul_one] at cc0 cc1
      clear hcell
      go_wp2_with fail
      refine (HE.out _ (Below.refl _ _)).mono ?_
      rintro e w1 ⟨us, rfl, own1, hb1⟩
      have hus := layMutex.len (layMutex.seen own1 (hi := w1.heap.size) fun g hg => hg.2)
      have hsu := layMutex.seen own1 (hi := w1.heap.size) fun g hg => hg.2
      obtain ⟨A1u, n1u, c1u, rfl, hw0u, ⟨hc1u, hm1u, s1u⟩⟩ := seeMutex hsu
      have hp1 := hpart.below hb1
      obtain ⟨⟨v0, ho0⟩, hf0⟩ := hp1.room hlt 0 (by decide)
      obtain ⟨⟨v1, ho1⟩, hf1⟩ := hp1.room hlt 1 (by decide)
      have hp2 := hp1.step hdk.out hus own1 (fun g hg => hg)
      have hb2 : Below w.heap.size w w1 := hb.trans (hb1.mono z)
      simp only [show layMutex.size = 2 from rfl, ← Nat.add_assoc, Nat.add_zero, Nat.mul_one] at ho0 hf0 ho1 hf1 hp2
      clear hpart hp1 hb1 HE own1 hus cc0 cc1 s1 s1u
      go_wp2_with fail
      go_roundw
      case rel => exact ⟨k + 1, by omega, by go_num, by simpa [putCells] using hp2, by go_grown⟩
      case measure => simp [intOf]; omega
    · go_wp2_with fail
      go_ret
      obtain rfl : k = n := by omega
      exact ⟨_, _, rfl, hpart.done, hb⟩
end Go.Proofs.Ytgfkadhojlddpaa
