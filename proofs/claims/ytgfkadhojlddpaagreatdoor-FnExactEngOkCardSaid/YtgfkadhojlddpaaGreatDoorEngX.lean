
/- What the texts on engines lay rows with. No program is named here but for the types' forms. -/

import Derived.Test.YtgfkadhojlddpaaGreatDoorEngM

import Derived.Test.YtgfkadhojlddpaaGreatDoorMutNew

import Derived.Test.YtgfkadhojlddpaaGreatDoorGInv

import Derived.Test.YtgfkadhojlddpaaGreatDoorGrow

import Derived.Deep.Cut

namespace Go.Proofs.YtgfkadhojlddpaaGreatDoor
set_option linter.unusedSimpArgs false
set_option linter.unusedVariables false
open Go.RowKit

theorem seen_block (w : World) (xs : List Value) (t : TypeId) : Seen (w.alloc (.cells xs.toArray t)) (w.heap.size + 1) xs.length (some ⟨w.heap.size, 0, none⟩) 1 xs := by
  refine ⟨by simp, .inr ⟨w.heap.size, 0, rfl, by omega, fun j u hu => ?_⟩⟩
  rw [Nat.zero_add]
  exact box_cell (box_new w xs.toArray t) (by simpa using hu)
theorem flat_cut_of {α : Type} {cells : α → List Value} {size : Nat} (hl : ∀ x, (cells x).length = size) {xs : List α} {i : Nat} {x : α} (h : xs[i]? = some x) : (((xs.map cells).flatten).drop (i * size)).take size = cells x := flat_cut hl h
/-- A row whose elements own no blocks: known by its cells. -/
theorem ownR_bare {α : Type} {L : Lay α} {cells : α → List Value} {w : World} {lo hi : Nat} {t : TypeId} {A : Option Addr} {n c : Nat} {xs : List α} (hl : ∀ x, (cells x).length = L.size) (h : Own w lo hi t L.size A n c ((xs.map cells).flatten)) (hn : xs.length = n)
    (hw : ∀ x ∈ xs, L.own w (fun _ => False) x (cells x)) : OwnR L t w (fun g => lo ≤ g ∧ g < hi) A n c xs := by
  refine ⟨hn, (xs.map cells).flatten, fun _ _ => False, h.wider (Nat.zero_le _) (Nat.le_refl _) |> fun h => ⟨h.1, fun a ha => (h.lt a ha).2.2⟩, fun g hg => ?_, fun i x hx => ?_, fun _ _ _ h => h.elim, fun _ _ _ h => h.elim, fun _ _ _ _ _ h => h.elim⟩
  · cases A with
    | none => cases hg
    | some a =>
      have h1 := h.lt a rfl
      injection hg with hg
      subst hg
      exact ⟨h1.1, h1.2.1⟩
  · rw [flat_cut hl hx]
    exact hw x (List.mem_of_getElem? hx)
/-- A row of one element, just laid. -/
theorem ownR_one {α : Type} {L : Lay α} {w : World} {F : Nat → Prop} {x : α} {us : List Value} {t : TypeId} (h : L.own w F x us) (hF : ∀ g, F g → g < w.heap.size) (hus : us.length = L.size) :
    OwnR L t (w.alloc (.cells us.toArray t)) (fun g => F g ∨ g = w.heap.size) (some ⟨w.heap.size, 0, none⟩) 1 1 [x] := by
  have h1 := Own.made (size := L.size) (e := t) w us.toArray 1 1 (by decide) (by simp [hus]) (Nat.le_refl _)
  rw [show (us.toArray.toList.take (1 * L.size)) = us by rw [Nat.one_mul, ← hus]; simp] at h1
  refine ⟨rfl, us, fun _ => F, ⟨h1.wider (Nat.zero_le _) (Nat.le_refl _) |>.1, fun a ha => (h1.lt a ha).2.2⟩, fun g hg => ?_, fun i y hy => ?_, fun i g _ hg => .inl hg, fun i g _ hg hh => ?_, fun i j g hij hj => by omega⟩
  · injection hg with hg
    exact .inr hg.symm
  · rcases i with _ | i
    · simp at hy
      subst hy
      rw [Nat.zero_mul, List.drop_zero, ← hus, List.take_length]
      exact L.stay h (fun g _ hlt => Below.heap_alloc w _ _ hlt) (by simp)
    · simp at hy
  · have h8 : w.heap.size = g := by injection hh
    have := hF g hg
    omega
theorem Own.turnedF {w w' : World} {lo hi size n c : Nat} {e : TypeId} {A : Option Addr} {xs : List Value} {G : Nat → Prop} (h : Own w lo hi e size A n c xs) (ht : TurnedF G w w') (hG : ∀ g, lo ≤ g → g < hi → ¬ G g) : Own w' lo hi e size A n c xs :=
  h.keep fun k h1 h2 h3 => ht.block k h3 (hG k h1 h2)
theorem Own.setCell {w : World} {lo hi size n c g o : Nat} {e : TypeId} {A : Option Addr} {xs : List Value} (h : Own w lo hi e size A n c xs) (hg : g < lo ∨ hi ≤ g) (u : Value) : Own (w.setCell ⟨g, o, none⟩ u) lo hi e size A n c xs :=
  h.keep fun k h1 h2 h3 => Below.heap_setCell w ⟨g, o, none⟩ u k (by show k ≠ g; omega)

/-- The cells of a new channel, of a new mutex. -/
def chC (v : Int) : List Value := [.int .i64 v, .slice none 0 0, .slice none 0 0, .slice none 0 0, .bool false]
def muC : List Value := [.int .i64 (-1), .slice none 0 0]
def newCh (v : Int) : DChan := ⟨v, [], [], [], false⟩
theorem own_newCh (w : World) {v : Int} (hv : (Lit.int .i64 v).wf = true) : layChan.own w (fun _ => False) (newCh v) (chC v) :=
  ownChan (x := newCh v) hv (TailR.of (ownG_nil Lay.int 3 w)) (TailR.of (ownG_nil layWaiter 95 w)) (TailR.of (ownG_nil layWaiter 95 w)) (fun _ h => h) (fun _ h => h) (fun _ h => h) (fun _ h => h.elim) (fun _ h => h.elim) (fun _ h => h.elim)
theorem rowCh {w : World} {lo hi : Nat} {A : Option Addr} {c : Nat} {l : List Int} (h : Own w lo hi 170 5 A l.length c ((l.map chC).flatten)) (hw : ∀ v ∈ l, (Lit.int .i64 v).wf = true) : OwnR layChan 170 w (fun g => lo ≤ g ∧ g < hi) A l.length c (l.map newCh) := by
  refine ownR_bare (cells := fun x => chC x.fCap) (fun _ => rfl) (by rw [List.map_map]; exact h) (by simp) (fun x hx => ?_)
  obtain ⟨v, hv, rfl⟩ := List.mem_map.1 hx
  exact own_newCh w (hw v hv)
theorem rowMu {w : World} {lo hi : Nat} {A : Option Addr} {n c : Nat} (h : Own w lo hi 172 2 A n c ((List.replicate n muC).flatten)) : OwnR layMutex 172 w (fun g => lo ≤ g ∧ g < hi) A n c (List.replicate n newM) := by
  refine ownR_bare (cells := fun _ => muC) (fun _ => rfl) (by rw [List.map_replicate]; exact h) (by simp) (fun x hx => ?_)
  rw [List.eq_of_mem_replicate hx]
  exact own_newM w _
theorem flat_more {α : Type} {l : List α} {f : α → List Value} {k : Nat} {x : α} (h : l[k]? = some x) : (((l.take (k + 1)).map f).flatten) = ((l.take k).map f).flatten ++ f x := by
  rw [List.take_add_one, h, List.map_append, List.flatten_append]
  simp
theorem rep_more (k : Nat) (x : List Value) : (List.replicate (k + 1) x).flatten = (List.replicate k x).flatten ++ x := by
  rw [List.replicate_succ', List.flatten_append]
  simp

theorem infoChanE : (Tryz.prog.info? 170).map (fun i => (i.zero, i.size, i.bytes)) = some (some (.agg #[.int .i64 0, .slice none 0 0, .slice none 0 0, .slice none 0 0, .bool false]), 5, 88) := by kernel_rfl
theorem infoMutexE : (Tryz.prog.info? 172).map (fun i => (i.zero, i.size, i.bytes)) = some (some (.agg #[.int .i64 0, .slice none 0 0]), 2, 32) := by kernel_rfl

section

variable {P : Program} {ops : Array Oper} {o : Oper} {a : Act} {w : World} {K : Act → World → Prop} {Q : Exit → Act → World → Prop} {E : Prop} {R : Ending → World → Prop}

theorem kept_c0 (hg : o.guard = none) (f : FuncId) (tys : Array TypeId) (hop : o.op = .call { callee := .value (.func f), args := #[], argTypes := tys })
    (hf : ∀ (args : Array Value) (w : World), Sem.run P (callFunc f args) w = .ok (.enter f args) w) (hc : Calls P f #[] w R) (h : ∀ e w', R e w' → ∃ v, e = .returned v ∧ K (a.put o.dst v) w') :
    Kept (if Region.wanted o (yielded ops a.tmps) = true then Oper.wp P o a w K Q else E) := ⟨step_callN hg f #[] tys hop hf #[] (by simp) hc h⟩
end

/-- A slice of one element, just built: its block. -/
def BuiltAt (lo : Nat) (W : World) (xs : List Value) (v : Value) : Prop := ∃ b, v = .slice (some ⟨b, 0, none⟩) 1 1 ∧ lo ≤ b ∧ b < W.heap.size ∧ Seen W (b + 1) xs.length (some ⟨b, 0, none⟩) 1 xs
theorem BuiltAt.new {lo : Nat} {W : World} {xs : List Value} {t : TypeId} (h : lo ≤ W.heap.size) : BuiltAt lo (W.alloc (.cells xs.toArray t)) xs (.slice (some ⟨W.heap.size, 0, none⟩) 1 1) := ⟨_, rfl, h, by simp, seen_block W xs t⟩
theorem BuiltAt.up {lo : Nat} {W W' : World} {xs : List Value} {v : Value} (h : BuiltAt lo W xs v) (hb : Below W.heap.size W W') : BuiltAt lo W' xs v := by
  obtain ⟨b, h1, h2, h3, h4⟩ := h
  exact ⟨b, h1, h2, Nat.lt_of_lt_of_le h3 hb.size, h4.below hb (by omega)⟩

theorem see_newCh_len (l : List Int) : (l.map newCh).length = l.length := by simp
theorem newE_yes {p : DProg} (h : progOkB p = true) : newE p = ⟨[newG 0 0], p.fCaps.map newCh, List.replicate p.fMus.toNat newM⟩ := by unfold newE; rw [if_pos h]; rfl
theorem newE_no {p : DProg} (h : progOkB p = false) : newE p = ⟨[], [], []⟩ := by unfold newE; rw [if_neg (by rw [h]; simp)]
theorem progOk_counts {p : DProg} (h : progOkB p = true) : p.fCaps.length ≤ 6 ∧ 0 ≤ p.fMus ∧ p.fMus ≤ 4 ∧ p.fSels.length ≤ 6 ∧ 1 ≤ p.fProcs.length ∧ p.fProcs.length ≤ 6 := by
  unfold progOkB at h
  rw [Bool.and_eq_true] at h
  exact of_decide_eq_true h.1
theorem progOk_caps {p : DProg} (h : progOkB p = true) {v : Int} (hv : v ∈ p.fCaps) : 0 ≤ v ∧ v ≤ 4 := by
  unfold progOkB at h
  simp only [Bool.and_eq_true, List.all_eq_true] at h
  exact of_decide_eq_true (h.2.1 v hv)
theorem made_noE {w w' : World} (hb : Below w.heap.size w w') : MadeO layEng w (⟨[], [], []⟩ : DEng) (.returned (.agg #[.slice none 0 0, .slice none 0 0, .slice none 0 0])) w' :=
  ⟨[.slice none 0 0, .slice none 0 0, .slice none 0 0], fun _ => False, rfl, ownEng (x := ⟨[], [], []⟩) (ownG_nil layGor 44 w') (ownG_nil layChan 170 w') (ownG_nil layMutex 172 w') (fun _ h => h) (fun _ h => h) (fun _ h => h) (fun _ h => h.elim) (fun _ h => h.elim) (fun _ h => h.elim), fun _ h => h.elim, hb⟩
end Go.Proofs.YtgfkadhojlddpaaGreatDoor
