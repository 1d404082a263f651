
/- Queues of ints (the program's queue[int]): count, all with a function value, copied, left, joined; words on rows of flat elements. The same texts as in ChanOkI, ChanCopy, ChanCut, ChanX, for a seat that has no channel. -/

import Derived.Test.YtghkdkagnibkgaaDInt

import Derived.Test.YtghkdkagnibkgaaTail

import Derived.Deep.Cut

import Derived.BigQuiet

namespace Go.Proofs.Ytghkdkagnibkgaa
set_option linter.unusedSimpArgs false
set_option linter.unusedVariables false
open Go.RowKit

/-- The function may be entered. -/
def Enters (f : Nat) : Prop := ∀ (args : Array Value) (w : World), Sem.run Try.prog (callFunc f args) w = .ok (.enter f args) w

theorem enters_of {f : Nat} {fn : Func} (h : Try.prog.funcs[f]? = some fn) (h1 : (fn.name == "runtime.NumGoroutine") = false) (h2 : fn.body.isNone = false) : Enters f := fun args w => by
  have h3 : ¬ fn.name = "runtime.NumGoroutine" := by simpa using h1
  have h4 : ¬ fn.body = none := fun h => by rw [h] at h2; simp at h2
  simp [callFunc, go_sem, h, h3, h4]

set_option maxRecDepth 100000 in
set_option maxHeartbeats 2000000 in
theorem countV_any {f : Nat} (hf : Enters f) {cap : Array Value} {p : Int → Bool} {w : World} {hi n c : Nat} {A : Option Addr} {ds : List Int} (h : SeenR Lay.int w hi A n ds) (hhi : hi ≤ w.heap.size) (hn : n ≤ maxLen)
    (hp : ∀ W d, Below w.heap.size w W → Calls Try.prog f (#[.int .i64 d] ++ cap) W fun e W' => e = .returned (.bool (p d)) ∧ Below W.heap.size W W') :
    Calls Try.prog 60 #[.slice A n c, .func (.func f) #[] cap] w fun e w' => e = .returned (.int .i64 (ds.countP p : Int)) ∧ Below w.heap.size w w' := by
  have HL := Lib.hid h.1
  unfold maxLen at hn
  go_enter Try.func60, Try.ntmps60
  go_wp2_with fail
  go_loopw [5, 10] (fun q i wr => ∃ k : Nat, k ≤ n ∧ i = .int .i64 k ∧ q = .int .i64 ((ds.take k).countP p : Int) ∧ Below w.heap.size w wr) (fun _ i _ => n - (intOf i).toNat)
  case atStart => exact ⟨0, Nat.zero_le _, rfl, by simp, Below.refl _ _⟩
  case round =>
    obtain ⟨k, hk, rfl, rfl, hb⟩ := hrel
    by_cases hlt : k < n
    · obtain ⟨hx, g, o, vs, rfl, hg, ⟨rfl, hw⟩, hcell⟩ := (h.below hb hhi).at_ hlt
      have HD := Lib.hid (List.getElem?_eq_getElem hx)
      have HC := Lib.hid (List.countP_le_length (p := p) (l := ds.take k))
      have HCn : (ds.take k).countP p ≤ k := by have := HC.out; rw [List.length_take] at this; omega
      have hz := hb.size
      have HP := Lib.hid hp
      generalize ds[k] = d at *
      have HT := Lib.hid (show (ds.take (k + 1)).countP p = (ds.take k).countP p + if p d then 1 else 0 by rw [List.take_add_one, HD.out, List.countP_append]; simp [List.countP_cons])
      generalize (ds.take k).countP p = m at *
      have cc0 := hcell 0 _ rfl
      simp only [show Lay.int.size = 1 from rfl, ← Nat.add_assoc, Nat.add_zero, Nat.mul_one] at cc0
      clear hcell hw hp h
      have HB := Lib.hid hb
      go_wp2_with fail
      rw [hf, Oper.upon_enter]
      refine (HP.out _ d HB.out).mono ?_
      rintro e w1 ⟨rfl, hb1⟩
      have HB1 := Lib.hid (HB.out.trans (hb1.mono (by omega)))
      clear hb1 cc0
      cases hq : p d
      · rw [hq] at HT
        go_wp2_with fail
        go_roundw
        case rel => exact ⟨k + 1, by omega, by go_num, by rw [HT.out]; simp, HB1.out⟩
        case measure => simp [intOf]; omega
      · rw [hq] at HT
        go_wp2_with fail
        go_roundw
        case rel => exact ⟨k + 1, by omega, by go_num, by rw [HT.out]; simp, HB1.out⟩
        case measure => simp [intOf]; omega
    · go_wp2_with fail
      go_ret
      obtain rfl : k = n := by omega
      rw [List.take_of_length_le (by rw [HL.out]; exact Nat.le_refl _)]
      exact ⟨rfl, hb⟩

set_option maxRecDepth 100000 in
set_option maxHeartbeats 1000000 in
theorem allV_any {f : Nat} (hf : Enters f) {cap : Array Value} {p : Int → Bool} {w : World} {hi n c : Nat} {A : Option Addr} {ds : List Int} (h : SeenR Lay.int w hi A n ds) (hhi : hi ≤ w.heap.size) (hn : n ≤ maxLen)
    (hp : ∀ W d, Below w.heap.size w W → Calls Try.prog f (#[.int .i64 d] ++ cap) W fun e W' => e = .returned (.bool (p d)) ∧ Below W.heap.size W W') :
    Calls Try.prog 53 #[.slice A n c, .func (.func f) #[] cap] w fun e w' => e = .returned (.bool (ds.all p)) ∧ Below w.heap.size w w' := by
  have HC := Lib.hid (countV_any (c := c) hf h hhi hn hp)
  have hl := h.1
  have hq : ds.all p = decide (ds.countP p = n) := by
    rw [← hl, Bool.eq_iff_iff, List.all_eq_true, decide_eq_true_eq, List.countP_eq_length]
  have HQ := Lib.hid hq
  generalize ds.countP p = m at *
  clear hq h hl hp
  go_enter Try.func53, Try.ntmps53
  go_wp2_with fail
  refine HC.out.mono ?_
  rintro e w1 ⟨rfl, hb⟩
  by_cases he : m = n
  · subst he
    go_wp2_with fail
    go_ret
    exact ⟨by rw [HQ.out]; simp, hb⟩
  · have he2 : ¬ (m : Int) = (n : Int) := by omega
    go_wp2_with fail
    go_ret
    exact ⟨by rw [HQ.out]; simp [he]; try omega, hb⟩

theorem seenR_flat {α : Type} {w : World} {hi size n : Nat} {A : Option Addr} {cells : α → List Value} {wf : α → Prop} {hl : ∀ x, (cells x).length = size} {xs : List α} (h : SeenR (Lay.flat size cells wf hl) w hi A n xs) :
    Seen w hi size A n ((xs.map cells).flatten) ∧ ∀ x ∈ xs, wf x := by
  obtain ⟨hlen, rfl | ⟨g, o, rfl, hg, f, hf⟩⟩ := h
  · simp at hlen
    subst hlen
    exact ⟨⟨by simp, .inl rfl⟩, fun x hx => by simp at hx⟩
  · refine ⟨⟨by rw [flat_len_ hl, hlen], ?_⟩, fun x hx => ?_⟩
    · refine .inr ⟨g, o, rfl, hg, fun j u hu => ?_⟩
      have hj : j < n * size := by
        have := (List.getElem?_eq_some_iff.1 hu).1
        rwa [flat_len_ hl, hlen] at this
      have hs : 0 < size := by
        rcases Nat.eq_zero_or_pos size with h0 | h0
        · rw [h0] at hj; omega
        · exact h0
      have hq : j / size < n := Nat.div_lt_of_lt_mul (by rw [Nat.mul_comm]; exact hj)
      have hx : xs[j / size]? = some (xs[j / size]'(by omega)) := List.getElem?_eq_getElem _
      have h1 := hf _ _ hx
      have h2 := flat_cut hl hx
      have e1 := h1.1.1
      have h3 : (cells (xs[j / size]'(by omega)))[j % size]? = some u := by
        rw [← h2, List.getElem?_take, if_pos (Nat.mod_lt _ hs), List.getElem?_drop, show j / size * size + j % size = j by rw [Nat.mul_comm]; exact Nat.div_add_mod j size]
        exact hu
      have h4 := h1.2 (j % size) u (by rw [e1]; exact h3)
      have h5 : j / size * (Lay.flat size cells wf hl).size + j % size = j := by
        show j / size * size + j % size = j
        rw [Nat.mul_comm]; exact Nat.div_add_mod j size
      rw [h5] at h4
      exact h4
    · obtain ⟨i, hi⟩ := List.mem_iff_getElem?.1 hx
      exact (hf i x hi).1.2

theorem infoIntC : (Try.prog.info? 3).map (fun i => (i.zero, i.size, i.bytes)) = some (some (.int .i64 0), 1, 8) := by kernel_rfl

theorem cells_oneI (xs : List Int) : ∀ u ∈ (xs.map fun x => [Value.int .i64 x]).flatten, u.oneCell' = true := by
  intro u hu
  simp only [List.mem_flatten, List.mem_map] at hu
  obtain ⟨l, ⟨x, _, rfl⟩, hu⟩ := hu
  simp at hu
  subst hu
  rfl

/-- Where q[1:] lies. -/
def restA (A : Option Addr) (s c : Nat) : Option Addr := if c = 1 then A else A.map (·.add s)

theorem run_rest {P : Program} {t e : TypeId} {s : Nat} (ht : P.underlying t = some (.slice e)) (hz : ∀ w, (Go.sizeOf e).run P w = .ok s w) (W : World) (A : Option Addr) (n c : Nat) (h1 : 1 ≤ n) :
    (Instr.slice t (.slice A n c) (some (.int .i64 1)) none none).run P W = .ok (.slice (restA A s c) (n - 1) (c - 1)) W := by
  have ht' : P.underlying t = some (.slice (P.elem t)) := by simp [Program.elem, ht]
  have he : P.elem t = e := by simp [Program.elem, ht]
  rw [run_slice_l W t _ _ _ ht' .i64 1 (by omega) (by omega), he, hz]
  simp [Result.andThen, sliced, restA]

theorem int_size : ∀ w, (Go.sizeOf 3).run Try.prog w = .ok 1 w := fun _ => by kernel_rfl

theorem TailR.cut {α : Type} {L : Lay α} {w : World} {F : Nat → Prop} {e : TypeId} {A : Option Addr} {n c : Nat} {x : α} {xs : List α} (h : TailR L e w F A (n + 1) c (x :: xs)) : TailR L e w F (restA A L.size c) n (c - 1) xs := by
  refine h.rest fun hn => ?_
  have hc := h.2.1
  rw [restA, if_neg (by omega)]

/-- One behind a row of one's own. -/
def JoinedV (w : World) (A : Option Addr) (n : Nat) (xs : List Int) (v : Int) (e : Ending) (w' : World) : Prop :=
  ∃ A' c', e = .returned (.slice A' (n + 1) c') ∧ OwnR Lay.int 3 w' (fun g => blkA A' = some g) A' (n + 1) c' (xs ++ [v]) ∧ (blkA A' = blkA A ∨ ∃ g, blkA A' = some g ∧ w.heap.size ≤ g) ∧
    (∀ k, k < w.heap.size → blkA A ≠ some k → w'.heap[k]? = w.heap[k]?) ∧ Below 0 w w'

theorem ownR_nil {α : Type} (L : Lay α) (e : TypeId) (w : World) : OwnR L e w (fun _ => False) none 0 0 [] :=
  ⟨rfl, [], fun _ _ => False, Own.nil_ _ _ _ _ _, fun g hg => by simp [blkA] at hg, fun i x hx => by simp at hx, fun _ _ _ h => h.elim, fun _ _ _ h => h.elim, fun _ _ _ _ _ h => h.elim⟩

theorem OwnR.blk {α : Type} {L : Lay α} {e : TypeId} {w : World} {F : Nat → Prop} {A : Option Addr} {n c : Nat} {xs : List α} (h : OwnR L e w F A n c xs) (g : Nat) (hg : blkA A = some g) : F g := by
  obtain ⟨_, _, _, _, hA, _⟩ := h
  exact hA g hg

theorem OwnR.lt_blk {α : Type} {L : Lay α} {e : TypeId} {w : World} {F : Nat → Prop} {A : Option Addr} {n c g : Nat} {xs : List α} (h : OwnR L e w F A n c xs) (hg : blkA A = some g) : g < w.heap.size := by
  obtain ⟨_, _, _, ho, _⟩ := h
  exact (ho.blk hg).2.2

theorem seenR_wf {α : Type} {w : World} {hi size n : Nat} {A : Option Addr} {cells : α → List Value} {wf : α → Prop} {hl : ∀ x, (cells x).length = size} {xs : List α} (h : SeenR (Lay.flat size cells wf hl) w hi A n xs) : ∀ x ∈ xs, wf x := by
  obtain ⟨hlen, rfl | ⟨g, o, rfl, hg, f, hf⟩⟩ := h
  · intro x hx; simp at hx
  · intro x hx
    obtain ⟨i, hi⟩ := List.mem_iff_getElem?.1 hx
    exact (hf i x hi).1.2

end Go.Proofs.Ytghkdkagnibkgaa
