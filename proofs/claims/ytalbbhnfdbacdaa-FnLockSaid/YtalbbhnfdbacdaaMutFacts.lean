
/- What FnLock's walk asks for: a drawn number; the mutex behind so many who want it, behind so many who gave it back; Lock, Unlock and MutexOk there. -/

import Derived.Test.YtalbbhnfdbacdaaMutLaw

import Derived.Test.YtalbbhnfdbacdaaMutNew

import Derived.Test.YtalbbhnfdbacdaaDraw

namespace Go.Proofs.Ytalbbhnfdbacdaa
set_option linter.unusedSimpArgs false
set_option linter.unusedVariables false
open Go.RowKit

set_option maxRecDepth 100000 in
set_option maxHeartbeats 2000000 in
theorem makeNum_any {A : Option Addr} {n c hi : Nat} {bs : List UInt8} {w : World} (hs : Seen w hi 1 A n (bs.map B)) (hh : hi ≤ w.heap.size) (hn : n ≤ 16777216) :
    Calls Try.prog 9 #[.slice A n c, .int .i64 5] w fun e w' => ∃ r : Nat, r ≤ 4 ∧ e = .returned (.int .i64 (r : Int)) ∧ Below w.heap.size w w' := by
  go_enter Try.func9, Try.ntmps9
  go_wp2_with fail
  refine (l01New_any hs hn).mono ?_
  rintro e w1 ⟨rfl, ⟨i, h, hi0, hX⟩, hb1, hz1⟩
  have hs1 := hs.below hb1 hh
  have p2 := box_cell (j := 2) hX rfl
  have f2 := box_free hX 2
  have HX := Lib.hid hX
  have HB := Lib.hid hb1
  have HZ := Lib.hid hz1
  clear hX hb1 hz1 hs
  have HD := Lib.hid (fun (x : Int) => show Calls Try.prog 23 #[.pointer (some ⟨w.heap.size, 0, none⟩), .int .i64 5] (w1.setCell ⟨w.heap.size, 2, none⟩ (.int .i64 x)) _ from l01Below_any (N := 5) (hi := hi) (hs1.keep fun k hk => Below.heap_setCell _ _ _ _ (by simp only; omega)) hh hn (by omega) ⟨i, x, hi0, box_set (j := 2) (u := .int .i64 x) HX.out⟩)
  have HBS := Lib.hid (fun (x : Int) => below_set (p := ⟨w.heap.size, 2, none⟩) HB.out (Nat.le_refl _) (.int .i64 x))
  clear hs1
  go_wp2_with fail
  refine (HD.out _).mono ?_
  rintro e w2 ⟨r, hr, rfl, _, ht⟩
  have hz := HZ.out
  have hbz := HBS.out ((h + 777))
  go_wp2_with fail
  go_ret
  exact ⟨r, by omega, rfl, (HBS.out _).trans (ht.below (Nat.le_refl _) (by simp [World.setCell]; omega))⟩

/-- Behind k who want it. -/
def lockSt (k : Nat) : DMutex := if k = 0 then newM else ⟨0, (List.range (k - 1)).map fun (i : Nat) => (i : Int) + 1⟩
/-- .. of n, k of whom have given it back. -/
def backSt (n k : Nat) : DMutex := if k < n then ⟨(k : Int), (List.range (n - 1 - k)).map fun (i : Nat) => (k : Int) + 1 + (i : Int)⟩ else newM

theorem lock_step : ∀ k, k < 6 → lockR (lockSt k) (k : Int) = (lockSt (k + 1), (k : Int) == 0, true) ∧ mutOkB (lockSt (k + 1)) = true ∧ szMutex (lockSt k) ≤ 6
  | 0, _ => ⟨rfl, rfl, by decide⟩
  | 1, _ => ⟨rfl, rfl, by decide⟩
  | 2, _ => ⟨rfl, rfl, by decide⟩
  | 3, _ => ⟨rfl, rfl, by decide⟩
  | 4, _ => ⟨rfl, rfl, by decide⟩
  | 5, _ => ⟨rfl, rfl, by decide⟩
  | k + 6, h => by omega
theorem sz_lock (k : Nat) (h : k ≤ 6) : szMutex (lockSt k) ≤ 6 := by
  unfold lockSt szMutex
  split <;> simp [newM] <;> omega
theorem sz_back (n k : Nat) (h : n ≤ 6) : szMutex (backSt n k) ≤ 6 := by
  unfold backSt szMutex
  split <;> simp [newM] <;> omega
theorem back_zero {n : Nat} (h1 : 2 ≤ n) (h2 : n ≤ 6) : backSt n 0 = lockSt n := by
  match n, h1, h2 with
  | 2, _, _ => rfl
  | 3, _, _ => rfl
  | 4, _, _ => rfl
  | 5, _, _ => rfl
  | 6, _, _ => rfl
  | k + 7, _, h => omega
theorem back_step {n k : Nat} (h1 : 2 ≤ n) (h2 : n ≤ 6) (hk : k < n) : unlockR (backSt n k) (k : Int) = (backSt n (k + 1), (if (k : Int) = (n : Int) - 1 then -1 else (k : Int) + 1), true) ∧ mutOkB (backSt n (k + 1)) = true ∧ szMutex (backSt n k) ≤ 6 := by
  match n, h1, h2 with
  | 2, _, _ => match k, hk with
    | 0, _ => exact ⟨rfl, rfl, by decide⟩
    | 1, _ => exact ⟨rfl, rfl, by decide⟩
    | k + 2, h => omega
  | 3, _, _ => match k, hk with
    | 0, _ => exact ⟨rfl, rfl, by decide⟩
    | 1, _ => exact ⟨rfl, rfl, by decide⟩
    | 2, _ => exact ⟨rfl, rfl, by decide⟩
    | k + 3, h => omega
  | 4, _, _ => match k, hk with
    | 0, _ => exact ⟨rfl, rfl, by decide⟩
    | 1, _ => exact ⟨rfl, rfl, by decide⟩
    | 2, _ => exact ⟨rfl, rfl, by decide⟩
    | 3, _ => exact ⟨rfl, rfl, by decide⟩
    | k + 4, h => omega
  | 5, _, _ => match k, hk with
    | 0, _ => exact ⟨rfl, rfl, by decide⟩
    | 1, _ => exact ⟨rfl, rfl, by decide⟩
    | 2, _ => exact ⟨rfl, rfl, by decide⟩
    | 3, _ => exact ⟨rfl, rfl, by decide⟩
    | 4, _ => exact ⟨rfl, rfl, by decide⟩
    | k + 5, h => omega
  | 6, _, _ => match k, hk with
    | 0, _ => exact ⟨rfl, rfl, by decide⟩
    | 1, _ => exact ⟨rfl, rfl, by decide⟩
    | 2, _ => exact ⟨rfl, rfl, by decide⟩
    | 3, _ => exact ⟨rfl, rfl, by decide⟩
    | 4, _ => exact ⟨rfl, rfl, by decide⟩
    | 5, _ => exact ⟨rfl, rfl, by decide⟩
    | k + 6, h => omega
  | k + 7, _, h => omega
theorem self_no {n : Nat} (h1 : 2 ≤ n) (h2 : n ≤ 6) : (lockR (lockSt n) 0).2.2 = false ∧ (unlockR (lockSt n) 1).2.2 = false ∧ szMutex (lockSt n) ≤ 6 := by
  match n, h1, h2 with
  | 2, _, _ => exact ⟨rfl, rfl, by decide⟩
  | 3, _, _ => exact ⟨rfl, rfl, by decide⟩
  | 4, _, _ => exact ⟨rfl, rfl, by decide⟩
  | 5, _, _ => exact ⟨rfl, rfl, by decide⟩
  | 6, _, _ => exact ⟨rfl, rfl, by decide⟩
  | k + 7, _, h => omega
theorem back_end (n : Nat) : backSt n n = newM := by
  unfold backSt
  rw [if_neg (by omega)]

/-- A mutex as a call hands it out: its row in memory of the call's own. -/
def Handed (w : World) (y : DMutex) (u v : Value) (e : Ending) (w' : World) : Prop :=
  ∃ A c, e = .returned (.tuple #[.agg #[.int .i64 y.fOwner, .slice A y.fWait.length c], u, v]) ∧ (Lit.int .i64 y.fOwner).wf = true ∧ c ≤ maxLen ∧ TailR Lay.int 3 w' (fun g => w.heap.size ≤ g ∧ g < w'.heap.size) A y.fWait.length c y.fWait ∧ Below w.heap.size w w'
theorem handed_of {w : World} {y : DMutex} {u v : Value} {e : Ending} {w' : World} {F : Nat → Prop} {vs : List Value} (he : e = .returned (.tuple #[.agg vs.toArray, u, v])) (ho : layMutex.own w' F y vs) (hF : ∀ g, F g → w.heap.size ≤ g ∧ g < w'.heap.size) (hb : Below w.heap.size w w') : Handed w y u v e w' := by
  have hse := layMutex.seen (hi := w'.heap.size) ho fun g hg => (hF g hg).2
  obtain ⟨A, n, c, F1, rfl, hw, o1, k1⟩ := unownMutex ho
  have hl := o1.1
  obtain ⟨A2, n2, c2, h2, _, h3, h4, _⟩ := seeMutex hse
  injection h2 with _ h2
  injection h2 with h2 _
  injection h2 with _ _ h2
  subst hl h2
  exact ⟨A, c, he, hw, h4, o1.wide fun g hg => hF g (k1 g hg), hb⟩

/-- A mutex that a law holds in the box b, its row from b0 on and elsewhere. -/
def HeldM (w : World) (b0 b : Nat) (y : DMutex) (A : Option Addr) (c : Nat) : Prop :=
  w.heap[b]? = some (.cells #[.int .i64 y.fOwner, .slice A y.fWait.length c] 25 (0, 0)) ∧ (Lit.int .i64 y.fOwner).wf = true ∧ c ≤ maxLen ∧ TailR Lay.int 3 w (Fm w b0 b) A y.fWait.length c y.fWait
theorem HeldM.see {w : World} {b0 b : Nat} {y : DMutex} {A : Option Addr} {c : Nat} (h : HeldM w b0 b y A c) : layMutex.see w w.heap.size y [.int .i64 y.fOwner, .slice A y.fWait.length c] := by
  obtain ⟨h1, h2, h3, h4⟩ := h
  exact layMutex.seen (hi := w.heap.size) (ownMutex (x := y) h2 h4 (F := Fm w b0 b) fun g hg => hg) fun g hg => hg.2.1
theorem HeldM.keep {w w' : World} {b0 b : Nat} {y : DMutex} {A : Option Addr} {c : Nat} (h : HeldM w b0 b y A c) (hb : Below w.heap.size w w') : HeldM w' b0 b y A c := by
  obtain ⟨h1, h2, h3, h4⟩ := h
  exact ⟨box_keep h1 hb (lt_of_block h1), h2, h3, (h4.stay (fun g hg hlt => hb.block g hlt) hb.size).wide fun g hg => ⟨hg.1, by have := hg.2.1; have := hb.size; omega, hg.2.2⟩⟩

theorem lockHeld {w : World} {b0 b : Nat} {y : DMutex} {A : Option Addr} {c : Nat} {g : Int} (h : HeldM w b0 b y A c) (hn : szMutex y ≤ 6) (hg : (Lit.int .i64 g).wf = true) :
    Calls Try.prog 10 #[.agg #[.int .i64 y.fOwner, .slice A y.fWait.length c], .int .i64 g] w (Handed w (lockR y g).1 (.bool (lockR y g).2.1) (.bool (lockR y g).2.2)) :=
  (implLock_law h.see (Nat.le_refl _) (by omega) hg).mono fun e w' ⟨vs, F, h1, h2, h3, h4⟩ => handed_of h1 h2 h3 h4
theorem unlockHeld {w : World} {b0 b : Nat} {y : DMutex} {A : Option Addr} {c : Nat} {g : Int} (h : HeldM w b0 b y A c) (hn : szMutex y ≤ 6) (hg : (Lit.int .i64 g).wf = true) :
    Calls Try.prog 12 #[.agg #[.int .i64 y.fOwner, .slice A y.fWait.length c], .int .i64 g] w (Handed w (unlockR y g).1 (.int .i64 (unlockR y g).2.1) (.bool (unlockR y g).2.2)) :=
  (implUnlock_law h.see (Nat.le_refl _) (by omega) hg).mono fun e w' ⟨vs, F, h1, h2, h3, h4⟩ => handed_of h1 h2 h3 h4
theorem okHeld {w : World} {b0 b : Nat} {y : DMutex} {A : Option Addr} {c : Nat} (h : HeldM w b0 b y A c) (hn : szMutex y ≤ 6) :
    Calls Try.prog 11 #[.agg #[.int .i64 y.fOwner, .slice A y.fWait.length c]] w fun e w' => e = .returned (.bool (mutOkB y)) ∧ Below w.heap.size w w' :=
  implMutexOk_any h.see (Nat.le_refl _) (by omega)

/-- What was handed out lies in a box at the heap's end. -/
theorem HeldM.boxed {w w' : World} {y : DMutex} {A : Option Addr} {c : Nat} (hw : (Lit.int .i64 y.fOwner).wf = true) (hc : c ≤ maxLen) (ht : TailR Lay.int 3 w' (fun g => w.heap.size ≤ g ∧ g < w'.heap.size) A y.fWait.length c y.fWait) :
    HeldM (w'.alloc (.cells #[.int .i64 y.fOwner, .slice A y.fWait.length c] 25)) w.heap.size w'.heap.size y A c := by
  refine ⟨box_new _ _ _, hw, hc, (ht.stay (w' := w'.alloc (.cells #[.int .i64 y.fOwner, .slice A y.fWait.length c] 25)) (fun g hg hlt => Below.heap_alloc w' _ _ hlt) (by simp)).wide fun g hg => ⟨hg.1, by have := hg.2; simp; omega, by have := hg.2; omega⟩⟩

/-- It is stored over the one that the law held. -/
theorem HeldM.over {w : World} {b0 b b1 : Nat} {y y' : DMutex} {A A' : Option Addr} {c c' b2 : Nat} (h : HeldM w b0 b y A c) (h' : HeldM w b1 b2 y' A' c') (hb : b0 ≤ b1) (hbb : b < b1) :
    HeldM ((w.setCell ⟨b, 0, none⟩ (.int .i64 y'.fOwner)).setCell ⟨b, 1, none⟩ (.slice A' y'.fWait.length c')) b0 b y' A' c' := by
  obtain ⟨h1, _, _, _⟩ := h
  obtain ⟨_, k2, k3, k4⟩ := h'
  refine ⟨box_set (j := 1) (u := .slice A' y'.fWait.length c') (box_set (j := 0) (u := .int .i64 y'.fOwner) h1), k2, k3, ?_⟩
  refine ((k4.setCell (o := 0) (g := b) (fun e => by have := e.1; omega) (.int .i64 y'.fOwner)).setCell (o := 1) (g := b) (fun e => by have := e.1; omega) (.slice A' y'.fWait.length c')).wide fun g hg => ⟨by have := hg.1; omega, by have := hg.2.1; simpa [World.setCell] using this, by have := hg.1; omega⟩
/-- .. and where what was handed out lies in no box. -/
theorem HeldM.over' {w : World} {b0 b b1 : Nat} {y y' : DMutex} {A A' : Option Addr} {c c' : Nat} (h : HeldM w b0 b y A c) (hw : (Lit.int .i64 y'.fOwner).wf = true) (hc : c' ≤ maxLen) (ht : TailR Lay.int 3 w (fun g => b1 ≤ g ∧ g < w.heap.size) A' y'.fWait.length c' y'.fWait) (hb : b0 ≤ b1) (hbb : b < b1) :
    HeldM ((w.setCell ⟨b, 0, none⟩ (.int .i64 y'.fOwner)).setCell ⟨b, 1, none⟩ (.slice A' y'.fWait.length c')) b0 b y' A' c' := by
  obtain ⟨h1, _, _, _⟩ := h
  refine ⟨box_set (j := 1) (u := .slice A' y'.fWait.length c') (box_set (j := 0) (u := .int .i64 y'.fOwner) h1), hw, hc, ?_⟩
  refine ((ht.setCell (o := 0) (g := b) (fun e => by have := e.1; omega) (.int .i64 y'.fOwner)).setCell (o := 1) (g := b) (fun e => by have := e.1; omega) (.slice A' y'.fWait.length c')).wide fun g hg => ⟨by have := hg.1; omega, by have := hg.2; simpa [World.setCell] using this, by have := hg.1; omega⟩
theorem HeldM.overB {w w0 : World} {B b : Nat} {u v : Value} (h : Below B w0 w) (hb : B ≤ b) : Below B w0 ((w.setCell ⟨b, 0, none⟩ u).setCell ⟨b, 1, none⟩ v) := below_set (below_set h hb _) hb _

/-- What was handed out is right, or it isn't. -/
theorem okRow {w : World} {y : DMutex} {A : Option Addr} {c : Nat} {F : Nat → Prop} (hw : (Lit.int .i64 y.fOwner).wf = true) (ht : TailR Lay.int 3 w F A y.fWait.length c y.fWait) (hF : ∀ g, F g → g < w.heap.size) (hn : szMutex y ≤ 6) :
    Calls Try.prog 11 #[.agg #[.int .i64 y.fOwner, .slice A y.fWait.length c]] w fun e w' => e = .returned (.bool (mutOkB y)) ∧ Below w.heap.size w w' :=
  implMutexOk_any (layMutex.seen (hi := w.heap.size) (ownMutex (x := y) hw ht (F := F) fun g hg => hg) fun g hg => hF g hg) (Nat.le_refl _) (by omega)
end Go.Proofs.Ytalbbhnfdbacdaa
