/- The contract of the program's FrameRead. -/
import Derived.Test.YtbogonfamflpdaaFrameReadB
namespace Go.Proofs.Ytbogonfamflpdaa
open Go.RowKit

/-- FrameRead has answered q: the data lie in memory of their own. -/
def FreadPost (w : World) (q : Int × List UInt8 × Int × Int) (e : Ending) (w' : World) : Prop :=
  ∃ A n c, e = .returned (.tuple #[.int .i64 q.1, .slice A n c, .int .i64 q.2.2.1, .int .i64 q.2.2.2]) ∧ Own w' w.heap.size w'.heap.size 5 1 A n c (q.2.1.map B) ∧ Below w.heap.size w w'

theorem fread_end {w W : World} {k : Int} {q} (hq : q = (0, [], 0, k)) (hb : Below w.heap.size w W) :
    FreadPost w q (.returned (.tuple #[.int .i64 0, .slice none 0 0, .int .i64 0, .int .i64 k])) (W.setCell ⟨w.heap.size, 0, none⟩ (.int .i64 k)) := by
  subst hq
  exact ⟨none, 0, 0, rfl, Own.nil_ _ _ _ _ _, hb.setCell (by simp) _⟩

section
variable {A : Option Addr} {n c hi : Nat} {bs : List UInt8} {w : World}
theorem code_cell {W : World} (hb : Below (w.heap.size + 1) (w.alloc (.cells #[.int .i64 0] 3)) W) : W.cell? ⟨w.heap.size, 0, none⟩ = some (.int .i64 0) ∧ W.frozen? ⟨w.heap.size, 0, none⟩ = false :=
  ⟨(hb.cell (p := ⟨w.heap.size, 0, none⟩) (by simp)).trans (by simp), (hb.frozen (p := ⟨w.heap.size, 0, none⟩) (by simp)).trans (by simp)⟩

set_option maxRecDepth 100000 in
theorem frameRead_out (p : Int) (hn : bs.length = n) (hp : p < 0 ∨ (n : Int) < p) :
    Calls Try.prog 21 #[.slice A n c, .int .i64 p] w (FreadPost w (fread bs p)) := by
  have hq := Lib.hid (fread_out (b := bs) (p := p) (by rw [hn]; exact hp))
  have hb0 : Below w.heap.size w (w.alloc (.cells #[.int .i64 0] 3)) := (Below.refl _ _).alloc (Nat.le_refl _) _
  have hmf : ∀ (fn : Fn) (first cap : Array Value) (w : World), (Instr.makeFunc fn first cap).run Try.prog w = .ok (.func fn first cap) w := fun _ _ _ _ => rfl
  by_cases h0 : p < 0
  · clear hp
    go_enter_defers Try.func21, Try.ntmps21
    go_wp2_with fail
    refine (giveUp_yes (by simp <;> omega) 1 _).mono ?_
    rintro e w' ⟨rfl, rfl⟩
    go_wp2_with fail
    refine leaves_cons (f := 39) (args := #[.pointer (some ⟨w.heap.size, 0, none⟩)]) (by simp) (by simp [go_sem]) ?_
    refine (catch_fault ⟨w.heap.size, 0, none⟩ 0 1 _ (by simp) (by simp)).mono ?_
    rintro e u' w'' ⟨rfl, rfl, rfl⟩
    simp [Leaves, settle, results, Try.results21, go_sem]
    rw [hq.out]
    exact ⟨none, 0, 0, rfl, Own.nil_ _ _ _ _ _, (Below.refl _ _).alloc (Nat.le_refl _) _⟩
  · have hp' : (n : Int) < p := by omega
    clear hp
    go_enter_defers Try.func21, Try.ntmps21
    go_wp2_with fail
    refine (giveUp_yes (by simp <;> omega) 1 _).mono ?_
    rintro e w' ⟨rfl, rfl⟩
    go_wp2_with fail
    refine leaves_cons (f := 39) (args := #[.pointer (some ⟨w.heap.size, 0, none⟩)]) (by simp) (by simp [go_sem]) ?_
    refine (catch_fault ⟨w.heap.size, 0, none⟩ 0 1 _ (by simp) (by simp)).mono ?_
    rintro e u' w'' ⟨rfl, rfl, rfl⟩
    simp [Leaves, settle, results, Try.results21, go_sem]
    rw [hq.out]
    exact ⟨none, 0, 0, rfl, Own.nil_ _ _ _ _ _, (Below.refl _ _).alloc (Nat.le_refl _) _⟩

set_option maxRecDepth 100000 in
set_option maxHeartbeats 400000 in
theorem frameRead_short {p : Nat} (h : Seen w hi 1 A n (bs.map B)) (hhi : hi ≤ w.heap.size) (hc : n ≤ c) (_hm : n ≤ 16777216) (hp : p ≤ n) (hr : n - p < 11) :
    Calls Try.prog 21 #[.slice A n c, .int .i64 (p : Int)] w (FreadPost w (fread bs p)) := by
  have hmf : ∀ (fn : Fn) (first cap : Array Value) (w : World), (Instr.makeFunc fn first cap).run Try.prog w = .ok (.func fn first cap) w := fun _ _ _ _ => rfl
  have hkl : ∀ W, (Instr.slice 22 (.slice A n c) (some (.int .i64 (p : Int))) none none).run Try.prog W = .ok (.slice (cutA A p c) (n - p) (c - p)) W := fun W => by
    have := run_cut_l Try.underlying22 u8_size W A n c (p : Int) (by omega) (by omega)
    rwa [Int.toNat_natCast] at this
  have hlen : bs.length = n := by simpa using h.1
  have hb0 : Below w.heap.size w (w.alloc (.cells #[.int .i64 0] 3)) := (Below.refl _ _).alloc (Nat.le_refl _) _
  have s0 : Seen (w.alloc (.cells #[.int .i64 0] 3)) hi 1 (cutA A p c) (n - p) ((bs.drop p).map B) := by
    have := (h.below hb0 hhi).cut (l := p) (m := n - p) (c := c) (by omega) hc
    rwa [← List.map_drop, List.take_of_length_le (by simp; omega)] at this
  have hhi' : hi ≤ (w.alloc (.cells #[.int .i64 0] 3)).heap.size := by simp; omega
  have hq := Lib.hid (fread_no (b := bs) (p := p) (by omega) (rd_2 (by simp; omega)) (by omega))
  clear h hlen
  go_enter_defers Try.func21, Try.ntmps21
  go_wp2_with fail
  refine (giveUp_no (by simp <;> omega) 1 _).mono ?_
  rintro e w' ⟨rfl, rfl⟩
  go_wp2_with fail
  refine (readHead_short (by omega)).mono ?_
  rintro e w' ⟨rfl, rfl⟩
  go_wp2_with fail
  refine leaves_cons (f := 39) (args := #[.pointer (some ⟨w.heap.size, 0, none⟩)]) (by simp) (by simp [go_sem]) ?_
  refine (catch_fault ⟨w.heap.size, 0, none⟩ 0 2 _ (by simp) (by simp)).mono ?_
  rintro e u' w'' ⟨rfl, rfl, rfl⟩
  simp [Leaves, settle, results, Try.results21, go_sem]
  rw [hq.out]
  exact ⟨none, 0, 0, rfl, Own.nil_ _ _ _ _ _, (Below.refl _ _).alloc (Nat.le_refl _) _⟩

set_option maxRecDepth 100000 in
set_option maxHeartbeats 400000 in
theorem frameRead_mark {p : Nat} (h : Seen w hi 1 A n (bs.map B)) (hhi : hi ≤ w.heap.size) (hc : n ≤ c) (_hm : n ≤ 16777216) (hp : p ≤ n) (hr : 11 ≤ n - p) (hx : (bs.drop p).head? ≠ some 82) :
    Calls Try.prog 21 #[.slice A n c, .int .i64 (p : Int)] w (FreadPost w (fread bs p)) := by
  have hmf : ∀ (fn : Fn) (first cap : Array Value) (w : World), (Instr.makeFunc fn first cap).run Try.prog w = .ok (.func fn first cap) w := fun _ _ _ _ => rfl
  have hkl : ∀ W, (Instr.slice 22 (.slice A n c) (some (.int .i64 (p : Int))) none none).run Try.prog W = .ok (.slice (cutA A p c) (n - p) (c - p)) W := fun W => by
    have := run_cut_l Try.underlying22 u8_size W A n c (p : Int) (by omega) (by omega)
    rwa [Int.toNat_natCast] at this
  have hlen : bs.length = n := by simpa using h.1
  have hb0 : Below w.heap.size w (w.alloc (.cells #[.int .i64 0] 3)) := (Below.refl _ _).alloc (Nat.le_refl _) _
  have s0 : Seen (w.alloc (.cells #[.int .i64 0] 3)) hi 1 (cutA A p c) (n - p) ((bs.drop p).map B) := by
    have := (h.below hb0 hhi).cut (l := p) (m := n - p) (c := c) (by omega) hc
    rwa [← List.map_drop, List.take_of_length_le (by simp; omega)] at this
  have hhi' : hi ≤ (w.alloc (.cells #[.int .i64 0] 3)).heap.size := by simp; omega
  have hq := Lib.hid (fread_no (b := bs) (p := p) (by omega) (rd_3 (by simp; omega) (.inl hx)) (by omega))
  have HX := Lib.hid hx
  clear hx
  clear h hlen
  go_enter_defers Try.func21, Try.ntmps21
  go_wp2_with fail
  refine (giveUp_no (by simp <;> omega) 1 _).mono ?_
  rintro e w' ⟨rfl, rfl⟩
  go_wp2_with fail
  refine (readHead_mark s0 hr HX.out).mono ?_
  rintro e w' ⟨rfl, rfl⟩
  go_wp2_with fail
  refine leaves_cons (f := 39) (args := #[.pointer (some ⟨w.heap.size, 0, none⟩)]) (by simp) (by simp [go_sem]) ?_
  refine (catch_fault ⟨w.heap.size, 0, none⟩ 0 3 _ (by simp) (by simp)).mono ?_
  rintro e u' w'' ⟨rfl, rfl, rfl⟩
  simp [Leaves, settle, results, Try.results21, go_sem]
  rw [hq.out]
  exact ⟨none, 0, 0, rfl, Own.nil_ _ _ _ _ _, (Below.refl _ _).alloc (Nat.le_refl _) _⟩

set_option maxRecDepth 100000 in
set_option maxHeartbeats 400000 in
theorem frameRead_sum {p : Nat} (h : Seen w hi 1 A n (bs.map B)) (hhi : hi ≤ w.heap.size) (hc : n ≤ c) (_hm : n ≤ 16777216) (hp : p ≤ n) (hr : 11 ≤ n - p) (hx : (bs.drop p).head? = some 82) (hs : num (part (bs.drop p) 7 4) ≠ crc (part (bs.drop p) 0 7)) :
    Calls Try.prog 21 #[.slice A n c, .int .i64 (p : Int)] w (FreadPost w (fread bs p)) := by
  have hmf : ∀ (fn : Fn) (first cap : Array Value) (w : World), (Instr.makeFunc fn first cap).run Try.prog w = .ok (.func fn first cap) w := fun _ _ _ _ => rfl
  have hkl : ∀ W, (Instr.slice 22 (.slice A n c) (some (.int .i64 (p : Int))) none none).run Try.prog W = .ok (.slice (cutA A p c) (n - p) (c - p)) W := fun W => by
    have := run_cut_l Try.underlying22 u8_size W A n c (p : Int) (by omega) (by omega)
    rwa [Int.toNat_natCast] at this
  have hlen : bs.length = n := by simpa using h.1
  have hb0 : Below w.heap.size w (w.alloc (.cells #[.int .i64 0] 3)) := (Below.refl _ _).alloc (Nat.le_refl _) _
  have s0 : Seen (w.alloc (.cells #[.int .i64 0] 3)) hi 1 (cutA A p c) (n - p) ((bs.drop p).map B) := by
    have := (h.below hb0 hhi).cut (l := p) (m := n - p) (c := c) (by omega) hc
    rwa [← List.map_drop, List.take_of_length_le (by simp; omega)] at this
  have hhi' : hi ≤ (w.alloc (.cells #[.int .i64 0] 3)).heap.size := by simp; omega
  have hq := Lib.hid (fread_no (b := bs) (p := p) (by omega) (rd_3 (by simp; omega) (.inr (.inl hs))) (by omega))
  have HX := Lib.hid hx
  have HS := Lib.hid hs
  clear hx hs
  clear h hlen
  go_enter_defers Try.func21, Try.ntmps21
  go_wp2_with fail
  refine (giveUp_no (by simp <;> omega) 1 _).mono ?_
  rintro e w' ⟨rfl, rfl⟩
  go_wp2_with fail
  refine (readHead_sum s0 hhi' (by omega) hr HX.out HS.out).mono ?_
  rintro e w1 ⟨rfl, hb1⟩
  rw [World.size_alloc] at hb1
  have hcc := code_cell hb1
  have hB1 : Below w.heap.size w w1 := hb0.trans (hb1.mono (by omega))
  go_wp2_with fail
  refine leaves_cons (f := 39) (args := #[.pointer (some ⟨w.heap.size, 0, none⟩)]) (by simp) (by simp [go_sem]) ?_
  refine (catch_fault ⟨w.heap.size, 0, none⟩ 0 3 _ hcc.1 hcc.2).mono ?_
  rintro e u' w'' ⟨rfl, rfl, rfl⟩
  have hcs := World.cell?_setCell_same _ _ (Value.int .i64 3) hcc.1
  simp [Leaves, settle, results, Try.results21, go_sem, hcs]
  exact fread_end (k := 3) hq.out hB1

set_option maxRecDepth 100000 in
set_option maxHeartbeats 400000 in
theorem frameRead_big {p : Nat} (h : Seen w hi 1 A n (bs.map B)) (hhi : hi ≤ w.heap.size) (hc : n ≤ c) (_hm : n ≤ 16777216) (hp : p ≤ n) (hr : 11 ≤ n - p) (hx : (bs.drop p).head? = some 82) (hs : num (part (bs.drop p) 7 4) = crc (part (bs.drop p) 0 7)) (hg : 100000 < num (part (bs.drop p) 1 3) ∨ 4000 < num (part (bs.drop p) 4 3)) :
    Calls Try.prog 21 #[.slice A n c, .int .i64 (p : Int)] w (FreadPost w (fread bs p)) := by
  have hmf : ∀ (fn : Fn) (first cap : Array Value) (w : World), (Instr.makeFunc fn first cap).run Try.prog w = .ok (.func fn first cap) w := fun _ _ _ _ => rfl
  have hkl : ∀ W, (Instr.slice 22 (.slice A n c) (some (.int .i64 (p : Int))) none none).run Try.prog W = .ok (.slice (cutA A p c) (n - p) (c - p)) W := fun W => by
    have := run_cut_l Try.underlying22 u8_size W A n c (p : Int) (by omega) (by omega)
    rwa [Int.toNat_natCast] at this
  have hlen : bs.length = n := by simpa using h.1
  have hb0 : Below w.heap.size w (w.alloc (.cells #[.int .i64 0] 3)) := (Below.refl _ _).alloc (Nat.le_refl _) _
  have s0 : Seen (w.alloc (.cells #[.int .i64 0] 3)) hi 1 (cutA A p c) (n - p) ((bs.drop p).map B) := by
    have := (h.below hb0 hhi).cut (l := p) (m := n - p) (c := c) (by omega) hc
    rwa [← List.map_drop, List.take_of_length_le (by simp; omega)] at this
  have hhi' : hi ≤ (w.alloc (.cells #[.int .i64 0] 3)).heap.size := by simp; omega
  have hq := Lib.hid (fread_no (b := bs) (p := p) (by omega) (rd_3 (by simp; omega) (.inr (.inr hg))) (by omega))
  have HX := Lib.hid hx
  have HS := Lib.hid hs
  have HG := Lib.hid hg
  clear hx hs hg
  clear h hlen
  go_enter_defers Try.func21, Try.ntmps21
  go_wp2_with fail
  refine (giveUp_no (by simp <;> omega) 1 _).mono ?_
  rintro e w' ⟨rfl, rfl⟩
  go_wp2_with fail
  refine (readHead_right s0 hhi' (by omega) hr HX.out HS.out).mono ?_
  rintro e w1 ⟨he, hb1⟩
  rw [if_pos HG.out] at he
  subst he
  rw [World.size_alloc] at hb1
  have hcc := code_cell hb1
  have hB1 : Below w.heap.size w w1 := hb0.trans (hb1.mono (by omega))
  go_wp2_with fail
  refine leaves_cons (f := 39) (args := #[.pointer (some ⟨w.heap.size, 0, none⟩)]) (by simp) (by simp [go_sem]) ?_
  refine (catch_fault ⟨w.heap.size, 0, none⟩ 0 3 _ hcc.1 hcc.2).mono ?_
  rintro e u' w'' ⟨rfl, rfl, rfl⟩
  have hcs := World.cell?_setCell_same _ _ (Value.int .i64 3) hcc.1
  simp [Leaves, settle, results, Try.results21, go_sem, hcs]
  exact fread_end (k := 3) hq.out hB1

set_option maxRecDepth 100000 in
set_option maxHeartbeats 400000 in
theorem frameRead_cut {p : Nat} (h : Seen w hi 1 A n (bs.map B)) (hhi : hi ≤ w.heap.size) (hc : n ≤ c) (_hm : n ≤ 16777216) (hp : p ≤ n) (hr : 11 ≤ n - p) (hx : (bs.drop p).head? = some 82) (hs : num (part (bs.drop p) 7 4) = crc (part (bs.drop p) 0 7)) (hg : ¬ (100000 < num (part (bs.drop p) 1 3) ∨ 4000 < num (part (bs.drop p) 4 3))) (hd : n - p < 15 + num (part (bs.drop p) 4 3)) :
    Calls Try.prog 21 #[.slice A n c, .int .i64 (p : Int)] w (FreadPost w (fread bs p)) := by
  have hmf : ∀ (fn : Fn) (first cap : Array Value) (w : World), (Instr.makeFunc fn first cap).run Try.prog w = .ok (.func fn first cap) w := fun _ _ _ _ => rfl
  have hkl : ∀ W, (Instr.slice 22 (.slice A n c) (some (.int .i64 (p : Int))) none none).run Try.prog W = .ok (.slice (cutA A p c) (n - p) (c - p)) W := fun W => by
    have := run_cut_l Try.underlying22 u8_size W A n c (p : Int) (by omega) (by omega)
    rwa [Int.toNat_natCast] at this
  have hlen : bs.length = n := by simpa using h.1
  have hb0 : Below w.heap.size w (w.alloc (.cells #[.int .i64 0] 3)) := (Below.refl _ _).alloc (Nat.le_refl _) _
  have s0 : Seen (w.alloc (.cells #[.int .i64 0] 3)) hi 1 (cutA A p c) (n - p) ((bs.drop p).map B) := by
    have := (h.below hb0 hhi).cut (l := p) (m := n - p) (c := c) (by omega) hc
    rwa [← List.map_drop, List.take_of_length_le (by simp; omega)] at this
  have hhi' : hi ≤ (w.alloc (.cells #[.int .i64 0] 3)).heap.size := by simp; omega
  have hq := Lib.hid (fread_no (b := bs) (p := p) (by omega) (rd_4 (by simp; omega) (by rintro (h | h | h); exact h hx; exact h hs; exact hg h) (by simp; omega)) (by omega))
  have HX := Lib.hid hx
  have HS := Lib.hid hs
  have HG := Lib.hid hg
  clear hx hs hg
  clear h hlen
  go_enter_defers Try.func21, Try.ntmps21
  go_wp2_with fail
  refine (giveUp_no (by simp <;> omega) 1 _).mono ?_
  rintro e w' ⟨rfl, rfl⟩
  go_wp2_with fail
  refine (readHead_right s0 hhi' (by omega) hr HX.out HS.out).mono ?_
  rintro e w1 ⟨he, hb1⟩
  rw [if_neg HG.out] at he
  subst he
  rw [World.size_alloc] at hb1
  have hcc := code_cell hb1
  have hB1 : Below w.heap.size w w1 := hb0.trans (hb1.mono (by omega))
  have hN4 : num (part (bs.drop p) 4 3) ≤ 4000 := by have := HG.out; omega
  have hN1 : num (part (bs.drop p) 1 3) ≤ 100000 := by have := HG.out; omega
  go_wp2_with fail
  refine (readData_short (by omega) (by omega)).mono ?_
  rintro e w' ⟨rfl, rfl⟩
  go_wp2_with fail
  refine leaves_cons (f := 39) (args := #[.pointer (some ⟨w.heap.size, 0, none⟩)]) (by simp) (by simp [go_sem]) ?_
  refine (catch_fault ⟨w.heap.size, 0, none⟩ 0 4 _ hcc.1 hcc.2).mono ?_
  rintro e u' w'' ⟨rfl, rfl, rfl⟩
  have hcs := World.cell?_setCell_same _ _ (Value.int .i64 4) hcc.1
  simp [Leaves, settle, results, Try.results21, go_sem, hcs]
  exact fread_end (k := 4) hq.out hB1

set_option maxRecDepth 100000 in
set_option maxHeartbeats 400000 in
theorem frameRead_right {p : Nat} (h : Seen w hi 1 A n (bs.map B)) (hhi : hi ≤ w.heap.size) (hc : n ≤ c) (_hm : n ≤ 16777216) (hp : p ≤ n) (hr : 11 ≤ n - p) (hx : (bs.drop p).head? = some 82) (hs : num (part (bs.drop p) 7 4) = crc (part (bs.drop p) 0 7)) (hg : ¬ (100000 < num (part (bs.drop p) 1 3) ∨ 4000 < num (part (bs.drop p) 4 3))) (hd : 15 + num (part (bs.drop p) 4 3) ≤ n - p) :
    Calls Try.prog 21 #[.slice A n c, .int .i64 (p : Int)] w (FreadPost w (fread bs p)) := by
  have hmf : ∀ (fn : Fn) (first cap : Array Value) (w : World), (Instr.makeFunc fn first cap).run Try.prog w = .ok (.func fn first cap) w := fun _ _ _ _ => rfl
  have hkl : ∀ W, (Instr.slice 22 (.slice A n c) (some (.int .i64 (p : Int))) none none).run Try.prog W = .ok (.slice (cutA A p c) (n - p) (c - p)) W := fun W => by
    have := run_cut_l Try.underlying22 u8_size W A n c (p : Int) (by omega) (by omega)
    rwa [Int.toNat_natCast] at this
  have hlen : bs.length = n := by simpa using h.1
  have hb0 : Below w.heap.size w (w.alloc (.cells #[.int .i64 0] 3)) := (Below.refl _ _).alloc (Nat.le_refl _) _
  have s0 : Seen (w.alloc (.cells #[.int .i64 0] 3)) hi 1 (cutA A p c) (n - p) ((bs.drop p).map B) := by
    have := (h.below hb0 hhi).cut (l := p) (m := n - p) (c := c) (by omega) hc
    rwa [← List.map_drop, List.take_of_length_le (by simp; omega)] at this
  have hhi' : hi ≤ (w.alloc (.cells #[.int .i64 0] 3)).heap.size := by simp; omega
  have hq5 := Lib.hid (fun h5 => fread_no (b := bs) (p := p) (by omega) (rd_5 (by simp; omega) (by rintro (h | h | h); exact h hx; exact h hs; exact hg h) (by simp; omega) h5) (by omega))
  have hq0 := Lib.hid (fun h5 => fread_yes (b := bs) (p := p) (by omega) (rd_0 (by simp; omega) (by rintro (h | h | h); exact h hx; exact h hs; exact hg h) (by simp; omega) h5))
  have HL := Lib.hid (show (part (bs.drop p) 15 (num (part (bs.drop p) 4 3))).length = num (part (bs.drop p) 4 3) by rw [part_length, List.length_drop]; omega)
  have HX := Lib.hid hx
  have HS := Lib.hid hs
  have HG := Lib.hid hg
  clear hx hs hg
  clear h hlen
  go_enter_defers Try.func21, Try.ntmps21
  go_wp2_with fail
  refine (giveUp_no (by simp <;> omega) 1 _).mono ?_
  rintro e w' ⟨rfl, rfl⟩
  go_wp2_with fail
  refine (readHead_right s0 hhi' (by omega) hr HX.out HS.out).mono ?_
  rintro e w1 ⟨he, hb1⟩
  rw [if_neg HG.out] at he
  subst he
  rw [World.size_alloc] at hb1
  have hcc := code_cell hb1
  have hB1 : Below w.heap.size w w1 := hb0.trans (hb1.mono (by omega))
  have hN4 : num (part (bs.drop p) 4 3) ≤ 4000 := by have := HG.out; omega
  have hN1 : num (part (bs.drop p) 1 3) ≤ 100000 := by have := HG.out; omega
  go_wp2_with fail
  refine (readData_any (s0.below hb1 (by omega)) (by have := hb1.size; simp at this; omega) (by omega) hd hN4).mono ?_
  rintro e w2 hpost
  clear hkl hmf
  rcases hpost with ⟨h5, he, hb2⟩ | ⟨h5, A2, c2, he, own2, hb2⟩
  · subst he
    have hb12 := hb1.trans (hb2.mono (by have := hb1.size; simp at this; omega))
    have hcc2 := code_cell hb12
    have H5 := Lib.hid h5
    clear h5
    go_wp2_with fail
    refine leaves_cons (f := 39) (args := #[.pointer (some ⟨w.heap.size, 0, none⟩)]) (by simp) (by simp [go_sem]) ?_
    refine (catch_fault ⟨w.heap.size, 0, none⟩ 0 5 _ hcc2.1 hcc2.2).mono ?_
    rintro e u' w'' ⟨rfl, rfl, rfl⟩
    have hcs := World.cell?_setCell_same _ _ (Value.int .i64 5) hcc2.1
    simp [Leaves, settle, results, Try.results21, go_sem, hcs]
    exact fread_end (k := 5) (hq5.out H5.out) (hb0.trans (hb12.mono (by omega)))
  · subst he
    have hb12 := hb1.trans (hb2.mono (by have := hb1.size; simp at this; omega))
    have hcc2 := code_cell hb12
    have H5 := Lib.hid h5
    clear h5
    obtain ⟨hc1, hc2⟩ := hcc2
    clear hcc
    go_wp2_with fail
    refine leaves_cons (f := 39) (args := #[.pointer (some ⟨w.heap.size, 0, none⟩)]) (by simp) (by simp [go_sem]) ?_
    refine (catch_idle ⟨w.heap.size, 0, none⟩ _).mono ?_
    rintro e u' w'' ⟨rfl, rfl, rfl⟩
    have hcs := World.cell?_setCell_same _ _ (Value.int .i64 0) hc1
    simp [Leaves, settle, results, Try.results21, go_sem, hcs]
    have hz1 := hb1.size
    have hsz := hb12.size
    rw [World.size_alloc] at hz1 hsz
    refine ⟨A2, _, c2, by rw [hq0.out H5.out, HL.out], ?_, (hb0.trans (hb12.mono (by omega))).setCell (by simp) _⟩
    rw [hq0.out H5.out]
    refine (own2.keep (fun k h1 _ _ => Below.heap_setCell _ _ _ k (by simp; omega))).wider (by omega) (by simp [World.setCell])

theorem implFrameRead_any (p : Int) (h : Seen w hi 1 A n (bs.map B)) (hhi : hi ≤ w.heap.size) (hc : n ≤ c) (hm : n ≤ 16777216) :
    Calls Try.prog 21 #[.slice A n c, .int .i64 p] w (FreadPost w (fread bs p)) := by
  have hlen : bs.length = n := by simpa using h.1
  by_cases hp : p < 0 ∨ (n : Int) < p
  · exact frameRead_out p hlen hp
  obtain ⟨q, rfl⟩ := Int.eq_ofNat_of_zero_le (show 0 ≤ p by omega)
  have hq : q ≤ n := by omega
  by_cases hr : n - q < 11
  · exact frameRead_short h hhi hc hm hq hr
  by_cases hx : (bs.drop q).head? = some 82
  · by_cases hs : num (part (bs.drop q) 7 4) = crc (part (bs.drop q) 0 7)
    · by_cases hg : 100000 < num (part (bs.drop q) 1 3) ∨ 4000 < num (part (bs.drop q) 4 3)
      · exact frameRead_big h hhi hc hm hq (by omega) hx hs hg
      · by_cases hd : n - q < 15 + num (part (bs.drop q) 4 3)
        · exact frameRead_cut h hhi hc hm hq (by omega) hx hs hg hd
        · exact frameRead_right h hhi hc hm hq (by omega) hx hs hg (by omega)
    · exact frameRead_sum h hhi hc hm hq (by omega) hx hs
  · exact frameRead_mark h hhi hc hm hq (by omega) hx
end
end Go.Proofs.Ytbogonfamflpdaa
