
/- A region that draws its order, by what each operation leaves in its slot: each operation is walked once, by itself; what comes last in every order is walked behind it. No program is named here. -/

import Derived.Test.YtegbnmlipajclaaInvB

namespace Go.Proofs.Ytegbnmlipajclaa
set_option linter.unusedSimpArgs false
set_option linter.unusedVariables false
open Go.RowKit

/-- What is known of a slot: lo to hi are the blocks that were new while it was filled; it goes on in every later world. -/
structure SP where
  p : Nat → Nat → World → Value → Prop
  up : ∀ {lo hi : Nat} {W W' : World} {v : Value}, hi ≤ W.heap.size → Below W.heap.size W W' → p lo hi W v → p lo hi W' v
def SP.any : SP := ⟨fun _ _ _ _ => True, fun _ _ h => h⟩
def SP.eq (x : Value) : SP := ⟨fun _ _ _ v => v = x, fun _ _ h => h⟩
def SP.of (f : World → Value → Prop) (h : ∀ {W W' : World} {v : Value}, Below W.heap.size W W' → f W v → f W' v) : SP := ⟨fun _ _ W v => f W v, fun _ hb hf => h hb hf⟩
def SP.see {α : Type} (L : Lay α) (x : α) : SP := ⟨fun _ _ W v => SeeAt L W x v, fun _ hb h => h.up hb⟩
def SP.own {α : Type} (L : Lay α) (x : α) : SP := ⟨fun lo hi W v => ∃ (vs : List Value) (F : Nat → Prop), v = .agg vs.toArray ∧ L.own W F x vs ∧ ∀ g, F g → lo ≤ g ∧ g < hi, fun hh hb ⟨vs, F, hv, ho, hF⟩ => ⟨vs, F, hv, L.stay ho (fun k hk _ => hb.block k (Nat.lt_of_lt_of_le (hF k hk).2 hh)) hb.size, hF⟩⟩
def SP.box (t : TypeId) (Z : List Value) : SP := ⟨fun lo hi W v => v = .pointer (some ⟨lo, 0, none⟩) ∧ lo < hi ∧ W.heap[lo]? = some (.cells Z.toArray t (0, 0)), fun hh hb ⟨h1, h2, h3⟩ => ⟨h1, h2, (hb.block _ (Nat.lt_of_lt_of_le h2 hh)).trans h3⟩⟩
theorem SP.eq_ {x v : Value} {lo hi : Nat} {W : World} (h : (SP.eq x).p lo hi W v) : v = x := h
theorem SP.of_ {f : World → Value → Prop} {hf} {v : Value} {lo hi : Nat} {W : World} (h : (SP.of f hf).p lo hi W v) : f W v := h
theorem SP.see_ {α : Type} {L : Lay α} {x : α} {v : Value} {lo hi : Nat} {W : World} (h : (SP.see L x).p lo hi W v) : SeeAt L W x v := h
theorem SP.own_ {α : Type} {L : Lay α} {x : α} {v : Value} {lo hi : Nat} {W : World} (h : (SP.own L x).p lo hi W v) : ∃ (vs : List Value) (F : Nat → Prop), v = .agg vs.toArray ∧ L.own W F x vs ∧ ∀ g, F g → lo ≤ g ∧ g < hi := h
theorem SP.box_ {t : TypeId} {Z : List Value} {v : Value} {lo hi : Nat} {W : World} (h : (SP.box t Z).p lo hi W v) : v = .pointer (some ⟨lo, 0, none⟩) ∧ lo < hi ∧ W.heap[lo]? = some (.cells Z.toArray t (0, 0)) := h

/-! ### The frame, with the slots filled -/

def frD (V : Nat → Value) : Nat → List (Option Tmp) → Act → Act
  | _, [], a => a
  | n, d :: ds, a => frD V (n + 1) ds (a.put d (V n))
def slotD (a : Act) : Option Tmp → Value
  | some d => a.tmps.getD d undef
  | none => undef
def updV {α : Type} (V : Nat → α) (k : Nat) (v : α) : Nat → α := fun j => if j = k then v else V j
theorem updV_at {α : Type} {V : Nat → α} {k : Nat} {v : α} : updV V k v k = v := if_pos rfl
theorem updV_ne {α : Type} {V : Nat → α} {k j : Nat} {v : α} (h : j ≠ k) : updV V k v j = V j := if_neg h
theorem put_slot (a : Act) (d : Option Tmp) : a.put d (slotD a d) = a := by
  cases d with
  | none => rfl
  | some d =>
    obtain ⟨t, df⟩ := a
    simp only [Act.put, slotD]
    congr 1
    by_cases h : d < t.size
    · apply Array.ext
      · simp
      · intro i h1 h2
        by_cases hd : d = i
        · subst hd; simp [h]
        · simp only [Array.getElem_setIfInBounds_ne h2 hd]
    · simp [Array.setIfInBounds, h]
theorem put_put (a : Act) (d : Option Tmp) (u v : Value) : (a.put d u).put d v = a.put d v := by
  cases d with
  | none => rfl
  | some d => simp [Act.put]
theorem put_comm (a : Act) {d e : Option Tmp} (h : d = none ∨ e = none ∨ d ≠ e) (u v : Value) : (a.put d u).put e v = (a.put e v).put d u := by
  cases d with
  | none => rfl
  | some d =>
    cases e with
    | none => rfl
    | some e =>
      have hde : d ≠ e := fun h1 => by subst h1; rcases h with h | h | h <;> simp at h
      simp only [Act.put]
      rw [Array.setIfInBounds_comm _ _ hde]
def apartD (d : Option Tmp) (ds : List (Option Tmp)) : Bool := ds.all fun e => d.isNone || e.isNone || d != e
def dstsOk : List (Option Tmp) → Bool
  | [] => true
  | d :: ds => apartD d ds && dstsOk ds
theorem frD_same {V : Nat → Value} : ∀ (ds : List (Option Tmp)) (n : Nat) (a : Act), (∀ i d, ds[i]? = some d → d.isSome → V (n + i) = slotD a d) → frD V n ds a = a := by
  intro ds
  induction ds with
  | nil => intro n a _; rfl
  | cons d ds ih =>
    intro n a h
    have hp : a.put d (V n) = a := by
      cases d with
      | none => rfl
      | some d' => rw [show V n = slotD a (some d') from h 0 _ rfl rfl]; exact put_slot a _
    show frD V (n + 1) ds (a.put d (V n)) = a
    rw [hp]
    exact ih (n + 1) a fun i e hi hs => by rw [Nat.add_assoc, Nat.add_comm 1 i]; exact h (i + 1) e (by simpa using hi) hs
theorem frD_comm {V : Nat → Value} {e : Option Tmp} {v : Value} : ∀ (ds : List (Option Tmp)) (n : Nat) (a : Act), apartD e ds = true → (frD V n ds a).put e v = frD V n ds (a.put e v) := by
  intro ds
  induction ds with
  | nil => intro n a _; rfl
  | cons d ds ih =>
    intro n a h
    simp only [apartD, List.all_cons, Bool.and_eq_true] at h
    show (frD V (n + 1) ds (a.put d (V n))).put e v = frD V (n + 1) ds ((a.put e v).put d (V n))
    rw [ih (n + 1) _ h.2, put_comm]
    have h1 := h.1
    simp only [Bool.or_eq_true, Option.isNone_iff_eq_none, bne_iff_ne, ne_eq] at h1
    rcases h1 with (h1 | h1) | h1
    · exact .inr (.inl h1)
    · exact .inl h1
    · exact .inr (.inr fun h2 => h1 h2.symm)
theorem frD_congr {V V' : Nat → Value} : ∀ (ds : List (Option Tmp)) (n : Nat) (a : Act), (∀ j, n ≤ j → V j = V' j) → frD V n ds a = frD V' n ds a := by
  intro ds
  induction ds with
  | nil => intro n a _; rfl
  | cons d ds ih =>
    intro n a h
    show frD V (n + 1) ds _ = frD V' (n + 1) ds _
    rw [h n (Nat.le_refl _)]
    exact ih (n + 1) _ fun j hj => h j (by omega)
theorem frD_put {V : Nat → Value} {v : Value} : ∀ (ds : List (Option Tmp)) (n i : Nat) (a : Act) (d : Option Tmp), dstsOk ds = true → ds[i]? = some d → (frD V n ds a).put d v = frD (updV V (n + i) v) n ds a := by
  intro ds
  induction ds with
  | nil => intro n i a d _ h; simp at h
  | cons d0 ds ih =>
    intro n i a d hok h
    simp only [dstsOk, Bool.and_eq_true] at hok
    cases i with
    | zero =>
      have hd : d0 = d := by simpa using h
      subst hd
      show (frD V (n + 1) ds (a.put d0 (V n))).put d0 v = frD (updV V (n + 0) v) (n + 1) ds (a.put d0 (updV V (n + 0) v n))
      simp only [Nat.add_zero]
      rw [frD_comm ds _ _ hok.1, put_put, updV_at]
      exact frD_congr ds _ _ fun j hj => (updV_ne (by omega)).symm
    | succ i =>
      show (frD V (n + 1) ds (a.put d0 (V n))).put d v = frD (updV V (n + (i + 1)) v) (n + 1) ds (a.put d0 (updV V (n + (i + 1)) v n))
      rw [ih (n + 1) i _ d hok.2 (by simpa using h), updV_ne (by omega), Nat.add_assoc, Nat.add_comm 1 i]

/-! ### Which operation waits for which -/

def waitsOn (l : List Oper) : Nat → Nat → Nat → Bool
  | 0, _, _ => false
  | f + 1, k, j => match l[k]? with
    | none => false
    | some o => o.after.any fun e => Region.binds .any e && (e.on == j || waitsOn l f e.on j)
def ClosedL (l : List Oper) (L : Nat → Prop) : Prop := ∀ i, L i → ∀ o, l[i]? = some o → ∀ e ∈ o.after, Region.binds .any e = true → L e.on
theorem waits_up {l : List Oper} {L : Nat → Prop} (hc : ClosedL l L) : ∀ f k j, waitsOn l f k j = true → (∀ o, l[k]? = some o → ∀ e ∈ o.after, Region.binds .any e = true → L e.on) → L j := by
  intro f
  induction f with
  | zero => intro k j h; cases h
  | succ f ih =>
    intro k j h hk
    simp only [waitsOn] at h
    split at h
    · cases h
    · rename_i o ho
      obtain ⟨e, he, hb⟩ := Array.any_eq_true'.1 h
      simp only [Bool.and_eq_true, Bool.or_eq_true, beq_iff_eq] at hb
      have hL := hk o ho e he hb.1
      rcases hb.2 with h1 | h1
      · exact h1 ▸ hL
      · exact ih e.on j h1 fun o' ho' e' he' hb' => hc e.on hL o' ho' e' he' hb'

/-- What is known of operation j. -/
structure Got (S : List SP) (w0 W : World) (V : Nat → Value) (lo hi : Nat → Nat) (j : Nat) : Prop where
  b0 : w0.heap.size ≤ lo j
  b1 : lo j ≤ hi j
  b2 : hi j ≤ W.heap.size
  p : (S.getD j SP.any).p (lo j) (hi j) W (V j)
theorem Got.up {S : List SP} {w0 W W' : World} {V : Nat → Value} {lo hi : Nat → Nat} {j : Nat} (h : Got S w0 W V lo hi j) (hb : Below W.heap.size W W') : Got S w0 W' V lo hi j :=
  ⟨h.b0, h.b1, Nat.le_trans h.b2 hb.size, SP.up _ h.b2 hb h.p⟩
/-- What a frame reads: the slots that have been filled, and all others as they were. -/
structure Reads (D : List (Option Tmp)) (V : Nat → Value) (a0 : Act) (ρ : Operand → Value) : Prop where
  at_ : ∀ j d, D[j]? = some (some d) → ρ (.tmp d) = V j
  off : ∀ t, D.all (· != some t) = true → ρ (.tmp t) = a0.eval (.tmp t)
  const : ∀ c, ρ (.const c) = c
  global : ∀ g, ρ (.global g) = .pointer (some ⟨g, 0, none⟩)
  func : ∀ f, ρ (.func f) = .func (.func f) #[] #[]
theorem apart_ne {d e : Tmp} {ds : List (Option Tmp)} (h : apartD (some d) ds = true) (hm : some e ∈ ds) : d ≠ e := by
  have h1 := List.all_eq_true.1 h _ hm
  simpa using h1
theorem put_tmps_size (a : Act) (d : Option Tmp) (v : Value) : (a.put d v).tmps.size = a.tmps.size := by
  cases d <;> simp [Act.put]
theorem frD_off {V : Nat → Value} {t : Tmp} : ∀ (ds : List (Option Tmp)) (n : Nat) (a : Act), ds.all (· != some t) = true → (frD V n ds a).eval (.tmp t) = a.eval (.tmp t) := by
  intro ds
  induction ds with
  | nil => intro n a _; rfl
  | cons d ds ih =>
    intro n a h
    simp only [List.all_cons, Bool.and_eq_true] at h
    show (frD V (n + 1) ds (a.put d (V n))).eval (.tmp t) = _
    rw [ih _ _ h.2]
    cases d with
    | none => rfl
    | some d =>
      have hdt : d ≠ t := by simpa using h.1
      simp [Act.eval, Act.put, hdt]
theorem frD_at {V : Nat → Value} : ∀ (ds : List (Option Tmp)) (n j : Nat) (a : Act) (d : Tmp), dstsOk ds = true → ds[j]? = some (some d) → d < a.tmps.size → (frD V n ds a).eval (.tmp d) = V (n + j) := by
  intro ds
  induction ds with
  | nil => intro n j a d _ h; simp at h
  | cons d0 ds ih =>
    intro n j a d hok h hs
    simp only [dstsOk, Bool.and_eq_true] at hok
    show (frD V (n + 1) ds (a.put d0 (V n))).eval (.tmp d) = _
    cases j with
    | zero =>
      have hd : d0 = some d := by simpa using h
      subst hd
      rw [frD_off]
      · simp [Act.eval, Act.put, hs]
      · refine List.all_eq_true.2 fun x hx => ?_
        cases x with
        | none => rfl
        | some e => have := apart_ne hok.1 hx; simp [Ne.symm this]
    | succ j =>
      rw [ih (n + 1) j _ d hok.2 (by simpa using h) (by rw [put_tmps_size]; exact hs), Nat.add_assoc, Nat.add_comm 1 j]
/-- One operation, by itself. -/
def FlowStep (P : Program) (l : List Oper) (D : List (Option Tmp)) (S : List SP) (w0 : World) (a0 : Act) (Q : Exit → Act → World → Prop) (k : Nat) (o : Oper) : Prop :=
  ∀ (V : Nat → Value) (lo hi : Nat → Nat) (W : World), Below w0.heap.size w0 W → (∀ j, waitsOn l l.length k j = true → Got S w0 W V lo hi j) →
    (∀ j d, (j = k ∨ waitsOn l l.length j k = true) → D[j]? = some (some d) → V j = a0.tmps.getD d undef) →
    ∀ A : Act, Reads D V a0 A.eval → ∀ K : Act → World → Prop, Shut (∀ v W', Below W.heap.size W W' → (S.getD k SP.any).p W.heap.size W'.heap.size W' v → K (A.put o.dst v) W') →
      Kept (if Region.wanted o (yielded l.toArray A.tmps) = true then Oper.wp P o A W K Q else K (A.put o.dst undef) W)
def FlowFrom (P : Program) (l : List Oper) (D : List (Option Tmp)) (S : List SP) (w0 : World) (a0 : Act) (Q : Exit → Act → World → Prop) : Nat → List Oper → Prop
  | _, [] => True
  | n, o :: os => FlowStep P l D S w0 a0 Q n o ∧ FlowFrom P l D S w0 a0 Q (n + 1) os
def flowOk (l : List Oper) (D : List (Option Tmp)) : Bool :=
  regionOrderedB l.toArray && dstsOk D && decide ((l.take D.length).map (·.dst) = D) &&
  (List.range l.length).all fun k => decide (k < D.length) || (List.range k).all fun j => waitsOn l l.length k j
section

variable {P : Program} {l : List Oper} {D : List (Option Tmp)} {S : List SP} {w0 : World} {a0 : Act} {Q : Exit → Act → World → Prop}

theorem FlowFrom.nil {n : Nat} : FlowFrom P l D S w0 a0 Q n [] := trivial
theorem fn {n : Nat} : FlowFrom P l D S w0 a0 Q n [] := trivial
theorem FlowFrom.cons {n : Nat} {o : Oper} {os : List Oper} (h : FlowStep P l D S w0 a0 Q n o) (hs : FlowFrom P l D S w0 a0 Q (n + 1) os) : FlowFrom P l D S w0 a0 Q n (o :: os) := ⟨h, hs⟩
theorem fc {n : Nat} {o : Oper} {os : List Oper} (h : FlowStep P l D S w0 a0 Q n o) (hs : FlowFrom P l D S w0 a0 Q (n + 1) os) : FlowFrom P l D S w0 a0 Q n (o :: os) := ⟨h, hs⟩
theorem FlowFrom.at : ∀ (os : List Oper) (n : Nat), FlowFrom P l D S w0 a0 Q n os → ∀ i o, os[i]? = some o → FlowStep P l D S w0 a0 Q (n + i) o := by
  intro os
  induction os with
  | nil => intro n _ i o h; simp at h
  | cons o' os ih =>
    intro n h i o ho
    cases i with
    | zero =>
      have : o' = o := by simpa using ho
      exact this ▸ h.1
    | succ i =>
      have h1 := ih (n + 1) h.2 i o (by simpa using ho)
      rwa [show n + 1 + i = n + (i + 1) by omega] at h1
/-- Where the flow stands. -/
def FlowAt (l : List Oper) (D : List (Option Tmp)) (S : List SP) (w0 : World) (a0 : Act) (L : Nat → Prop) (a : Act) (W : World) : Prop :=
  ∃ (V : Nat → Value) (lo hi : Nat → Nat), a = frD V 0 D a0 ∧ Below w0.heap.size w0 W ∧ (∀ k, L k → Got S w0 W V lo hi k) ∧ (∀ j k, L j → L k → j ≠ k → hi j ≤ lo k ∨ hi k ≤ lo j) ∧
    (∀ k d, ¬ L k → D[k]? = some (some d) → V k = a0.tmps.getD d undef) ∧ (∀ k, L k → k < D.length) ∧ ClosedL l L
/-- A region that draws, by its flow. -/
theorem wp_region_flow {id : Nat} (D : List (Option Tmp)) (S : List SP) (hm : P.follows .mixedOrders = true) (hok : flowOk l D = true) (hsz : D.all (fun d => d.all (· < a0.tmps.size)) = true) (hsteps : ∀ Q', FlowFrom P l D S w0 a0 Q' 0 (l.take D.length))
    (hend : ∀ (V : Nat → Value) (lo hi : Nat → Nat) (W : World), Below w0.heap.size w0 W → (∀ k, k < D.length → Got S w0 W V lo hi k) → (∀ j k, j < D.length → k < D.length → j ≠ k → hi j ≤ lo k ∨ hi k ≤ lo j) → Kept (wpList P l.toArray Q (l.drop D.length) (frD V 0 D a0) W)) :
    (Code.region id l.toArray true).wp P Q a0 w0 := by
  simp only [flowOk, Bool.and_eq_true, decide_eq_true_eq] at hok
  obtain ⟨⟨⟨hord, hdst⟩, hD⟩, hlate⟩ := hok
  have hlate' : ∀ k j, k < l.length → D.length ≤ k → j < k → waitsOn l l.length k j = true := fun k j hk hd hj => by
    have h1 := List.all_eq_true.1 hlate k (List.mem_range.2 hk)
    simp only [Bool.or_eq_true, decide_eq_true_eq] at h1
    rcases h1 with h1 | h1
    · omega
    · exact List.all_eq_true.1 h1 j (List.mem_range.2 hj)
  have hDl : D.length ≤ l.length := by
    have h1 := congrArg List.length hD
    simp only [List.length_map, List.length_take] at h1
    omega
  have hDo : ∀ k o, k < D.length → l[k]? = some o → D[k]? = some o.dst := fun k o hk ho => by
    rw [← hD, List.getElem?_map, List.getElem?_take_of_lt hk, ho]; rfl
  let I : (Nat → Prop) → Act → World → Prop := fun L a W => FlowAt l D S w0 a0 L a W ∨ ∃ i, 0 < i ∧ D.length + i ≤ l.length ∧ (∀ j, L j ↔ j < D.length + i) ∧ wpList P l.toArray Q (l.drop (D.length + i)) a W
  refine wp_region_any hm (wpAny_invB (I := I) hord ?_ ?_ _ _ _ _ (by simp) (by simp) ?_)
  · intro i hir L a W hI hn hdep
    have hil : i < l.length := by simpa using hir
    have ho : l[i]? = some l[i] := List.getElem?_eq_getElem hil
    have ho' : l.toArray[i]? = some l[i] := by simp
    -- the step at the end of the flow, or behind it
    have htail : ∀ m, i = D.length + m → (∀ j, L j ↔ j < D.length + m) → wpList P l.toArray Q (l.drop (D.length + m)) a W → wpOp P l.toArray Q i (I fun j => L j ∨ j = i) a W := by
      intro m him hLm hw
      subst him
      rw [List.drop_eq_getElem_cons hil] at hw
      unfold wpList at hw
      unfold wpOp
      rw [ho']
      have hgo : ∀ a W, wpList P l.toArray Q (l.drop (D.length + m + 1)) a W → I (fun j => L j ∨ j = D.length + m) a W := fun a W h => .inr ⟨m + 1, by omega, by omega, fun j => by show (L j ∨ _) ↔ _; rw [hLm]; omega, h⟩
      show if Region.wanted _ _ = true then _ else _
      split
      · rename_i hwt
        rw [if_pos hwt] at hw
        exact hw.imp (Oper.wp_mono hgo) fun h => h
      · rename_i hwt
        rw [if_neg hwt] at hw
        exact hgo _ _ hw
    rcases hI with ⟨V, lo, hi, rfl, hB, hG, hA, hU, hLt, hC⟩ | ⟨m, hm0, hml, hLm, hw⟩
    · by_cases hit : i < D.length
      · refine wpOp_step ho' fun K hK => ?_
        have hstep := FlowFrom.at _ 0 (hsteps Q) i l[i] (by rw [List.getElem?_take_of_lt hit, ho])
        rw [Nat.zero_add] at hstep
        have hcl : ∀ o, l[i]? = some o → ∀ e ∈ o.after, Region.binds .any e = true → L e.on := fun o h1 e he hb => hdep o (by simpa using h1) e he hb
        have hR : Reads D V a0 (frD V 0 D a0).eval := ⟨fun j d hj => by
            have h1 := frD_at (V := V) D 0 j a0 d hdst hj (by
              have h2 := List.all_eq_true.1 hsz _ (List.mem_of_getElem? hj)
              simpa using h2)
            rwa [Nat.zero_add] at h1, fun t ht => frD_off D 0 a0 ht, fun _ => rfl, fun _ => rfl, fun _ => rfl⟩
        refine (hstep V lo hi W hB (fun j hj => hG j (waits_up hC _ i j hj hcl)) (fun j d hj hd => hU j d (fun hLj => ?_) hd) _ hR K (show Shut _ from fun v W' hb hp => hK _ _ (.inl ?_))).out
        · rcases hj with rfl | hj
          · exact hn hLj
          · exact hn (waits_up hC _ j i hj fun o h1 e he hb => hC j hLj o h1 e he hb)
        · refine ⟨updV V i v, updV lo i W.heap.size, updV hi i W'.heap.size, ?_, hB.trans (hb.mono hB.size), ?_, ?_, ?_, ?_, ?_⟩
          · have := frD_put (V := V) (v := v) D 0 i a0 _ hdst (hDo i _ hit ho)
            rwa [Nat.zero_add] at this
          · intro k hk
            by_cases hki : k = i
            · subst hki
              exact ⟨by rw [updV_at]; exact hB.size, by rw [updV_at, updV_at]; exact hb.size, by rw [updV_at]; exact Nat.le_refl _, by rw [updV_at, updV_at, updV_at]; exact hp⟩
            · have h1 := (hG k (hk.resolve_right hki)).up hb
              exact ⟨by rw [updV_ne hki]; exact h1.b0, by rw [updV_ne hki, updV_ne hki]; exact h1.b1, by rw [updV_ne hki]; exact h1.b2, by rw [updV_ne hki, updV_ne hki, updV_ne hki]; exact h1.p⟩
          · intro j k hj hk hjk
            by_cases hji : j = i
            · subst hji
              have hkL := hk.resolve_right (Ne.symm hjk)
              rw [updV_at, updV_at, updV_ne (Ne.symm hjk), updV_ne (Ne.symm hjk)]
              exact .inr (hG k hkL).b2
            · by_cases hki : k = i
              · subst hki
                rw [updV_at, updV_at, updV_ne hji, updV_ne hji]
                exact .inl (hG j (hj.resolve_right hji)).b2
              · rw [updV_ne hji, updV_ne hji, updV_ne hki, updV_ne hki]
                exact hA j k (hj.resolve_right hji) (hk.resolve_right hki) hjk
          · intro k d hk hd
            rw [updV_ne fun h => hk (.inr h)]
            exact hU k d (fun h => hk (.inl h)) hd
          · intro k hk
            rcases hk with hk | rfl
            · exact hLt k hk
            · exact hit
          · intro k hk o h1 e he hb'
            rcases hk with hk | rfl
            · exact .inl (hC k hk o h1 e he hb')
            · exact .inl (hcl o h1 e he hb')
      · have hcl : ∀ o, l[i]? = some o → ∀ e ∈ o.after, Region.binds .any e = true → L e.on := fun o h1 e he hb => hdep o (by simpa using h1) e he hb
        have hall : ∀ j, j < i → L j := fun j hj => waits_up hC _ i j (hlate' i j hil (by omega) hj) hcl
        have hi0 : i = D.length := by
          by_cases h : D.length < i
          · have := hLt _ (hall _ h); omega
          · omega
        have hw := (hend V lo hi W hB (fun k hk => hG k (hall k (by omega))) (fun j k hj hk hjk => hA j k (hall j (by omega)) (hall k (by omega)) hjk)).out
        exact htail 0 (by omega) (fun j => ⟨fun h => hLt j h, fun h => hall j (by omega)⟩) hw
    · have hge : D.length + m ≤ i := by
        apply Classical.byContradiction
        intro h
        exact hn ((hLm i).2 (by omega))
      have hi0 : i = D.length + m := by
        by_cases h : D.length + m < i
        · have hC : ClosedL l L := fun k hk o h1 e he hb => (hLm _).2 (by
            have h2 := regionOrderedB_spec hord (i := k) (o := o) (by simpa using h1) e he hb
            have h3 := (hLm k).1 hk
            omega)
          exact absurd ((hLm _).1 (waits_up hC _ i (D.length + m) (hlate' i _ hil (by omega) h) fun o h1 e he hb => hdep o (by simpa using h1) e he hb)) (by omega)
        · omega
      exact htail m hi0 hLm hw
  · intro L a W hL hI
    rcases hI with ⟨V, lo, hi, rfl, hB, hG, hA, hU, hLt, hC⟩ | ⟨m, hm0, hml, hLm, hw⟩
    · have hnl : l.length ≤ D.length := by
        apply Classical.byContradiction
        intro h
        have := hLt _ (hL D.length (by simpa using h))
        omega
      have hw := (hend V lo hi W hB (fun k hk => hG k (hL k (by simpa using (by omega : k < l.length)))) (fun j k hj hk hjk => hA j k (hL j (by simpa using (by omega : j < l.length))) (hL k (by simpa using (by omega : k < l.length))) hjk)).out
      rwa [List.drop_eq_nil_of_le hnl] at hw
    · have hnl : l.length ≤ D.length + m := by
        apply Classical.byContradiction
        intro h
        have := (hLm (D.length + m)).1 (hL _ (by simpa using (by omega : D.length + m < l.length)))
        omega
      rwa [List.drop_eq_nil_of_le hnl] at hw
  · rw [upAt_none]
    refine .inl ⟨fun k => slotD a0 ((D[k]?).getD none), fun _ => 0, fun _ => 0, ?_, Below.drew (Below.refl _ _), fun k h => h.elim, fun j k h => h.elim, ?_, fun k h => h.elim, fun i h => h.elim⟩
    · exact (frD_same D 0 a0 fun i d hi _ => by rw [Nat.zero_add, hi]; rfl).symm
    · intro k d _ hd
      simp only [hd, Option.getD_some]
      rfl
/-- An operation that only makes a value. -/
theorem FlowStep.plain {k : Nat} {o : Oper} (v : Value) (hg : o.guard = none) (hS : S.getD k SP.any = SP.eq v)
    (h : ∀ (V : Nat → Value) (lo hi : Nat → Nat) (W : World), Below w0.heap.size w0 W → (∀ j, waitsOn l l.length k j = true → Got S w0 W V lo hi j) →
      (∀ j d, (j = k ∨ waitsOn l l.length j k = true) → D[j]? = some (some d) → V j = a0.tmps.getD d undef) → ∀ ρ : Operand → Value, Reads D V a0 ρ → (execOp ρ o).run P W = .ok (.value v) W) : FlowStep P l D S w0 a0 Q k o := by
  intro V lo hi W hB hD hH A hR K hK
  refine ⟨?_⟩
  rw [if_pos (by simp [Region.wanted, hg])]
  unfold Oper.wp
  rw [h V lo hi W hB hD hH A.eval hR]
  exact hK.out v W (Below.refl _ _) (by rw [hS]; exact rfl)
/-- A call of a function. -/
theorem FlowStep.call {k : Nat} {o : Oper} {args : Array Operand} {tys : Array TypeId} (hg : o.guard = none) (f : FuncId) (hop : o.op = .call { callee := .value (.func f), args := args, argTypes := tys })
    (hf : ∀ (args : Array Value) (w : World), Sem.run P (callFunc f args) w = .ok (.enter f args) w)
    (h : ∀ (V : Nat → Value) (lo hi : Nat → Nat) (W : World), Below w0.heap.size w0 W → (∀ j, waitsOn l l.length k j = true → Got S w0 W V lo hi j) →
      (∀ j d, (j = k ∨ waitsOn l l.length j k = true) → D[j]? = some (some d) → V j = a0.tmps.getD d undef) → ∀ ρ : Operand → Value, Reads D V a0 ρ →
        Calls P f (args.map ρ) W fun e W' => ∃ v, e = .returned v ∧ Below W.heap.size W W' ∧ (S.getD k SP.any).p W.heap.size W'.heap.size W' v) : FlowStep P l D S w0 a0 Q k o := by
  intro V lo hi W hB hD hH A hR K hK
  refine ⟨?_⟩
  rw [if_pos (by simp [Region.wanted, hg])]
  have hA : (fun x => A.eval x) = A.eval := rfl
  unfold Oper.wp
  simp only [execOp, hop, resolve, Act.eval, Deferred.ofValue, invoke, Sem.run_bind, Sem.run_pure, Result.andThen_ok, hf, Array.append_empty, Array.empty_append, List.map_toArray, List.map_cons, List.map_nil, Oper.upon_enter]
  refine (h V lo hi W hB hD hH A.eval hR).mono ?_
  rintro e W' ⟨v, rfl, hb, hp⟩
  exact hK.out v W' hb hp
/-- A new box. -/
theorem FlowStep.alloc {k : Nat} {o : Oper} {t : TypeId} {Z : List Value} (hg : o.guard = none) (hS : S.getD k SP.any = SP.box t Z)
    (h : ∀ (ρ : Operand → Value) (W : World), (execOp ρ o).run P W = .ok (.value (.pointer (some ⟨W.heap.size, 0, none⟩))) (W.alloc (.cells Z.toArray t))) : FlowStep P l D S w0 a0 Q k o := by
  intro V lo hi W hB hD hH A hR K hK
  refine ⟨?_⟩
  rw [if_pos (by simp [Region.wanted, hg])]
  unfold Oper.wp
  rw [h A.eval W]
  exact hK.out _ _ ((Below.refl _ _).alloc (Nat.le_refl _) _) (by rw [hS]; exact ⟨rfl, by simp, box_new W Z.toArray t⟩)
/-- An operation that makes a value and memory with it. -/
theorem FlowStep.make {k : Nat} {o : Oper} (hg : o.guard = none)
    (h : ∀ (V : Nat → Value) (lo hi : Nat → Nat) (W : World), Below w0.heap.size w0 W → (∀ j, waitsOn l l.length k j = true → Got S w0 W V lo hi j) → ∀ ρ : Operand → Value, Reads D V a0 ρ →
      ∃ v W', (execOp ρ o).run P W = .ok (.value v) W' ∧ Below W.heap.size W W' ∧ (S.getD k SP.any).p W.heap.size W'.heap.size W' v) : FlowStep P l D S w0 a0 Q k o := by
  intro V lo hi W hB hD hH A hR K hK
  refine ⟨?_⟩
  rw [if_pos (by simp [Region.wanted, hg])]
  obtain ⟨v, W', hrun, hb, hp⟩ := h V lo hi W hB hD A.eval hR
  unfold Oper.wp
  rw [hrun]
  exact hK.out v W' hb hp
end

end Go.Proofs.Ytegbnmlipajclaa
