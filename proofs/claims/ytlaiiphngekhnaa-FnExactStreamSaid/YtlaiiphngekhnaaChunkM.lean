
/- Contracts of the laws' helpers over rows of chunks: comparing (eqChunkS), marking (markChunkS), asking for the marks (heldChunkS). -/

import Derived.Test.YtlaiiphngekhnaaChunk

import Derived.Deep.RegionWith

namespace Go.Proofs.Ytlaiiphngekhnaa

open Go.RowKit

section

variable {w : World}

theorem eqChunk_same {A A' : Option Addr} {n c c' hi hi' : Nat} {bs : List UInt8} (h : Seen w hi 1 A n (bs.map B)) (h' : Seen w hi' 1 A' n (bs.map B)) (hh : hi ≤ w.heap.size) (hh' : hi' ≤ w.heap.size) (hn : n ≤ 16777216) :
    Calls Try.prog 23 #[.agg #[.slice A n c], .agg #[.slice A' n c']] w fun e w' => e = .returned (.bool true) ∧ Below w.heap.size w w' := by
  have hb0 : Below w.heap.size w ((w.alloc (.cells #[.slice A n c] 40)).alloc (.cells #[.slice A' n c'] 40)) := ((Below.refl _ _).alloc (Nat.le_refl _) _).alloc (by simp) _
  go_enter Try.func23, Try.ntmps23
  go_wp2_with fail
  refine (eqByteS_same (h.below hb0 hh) (h'.below hb0 hh') hn).mono ?_
  rintro e w' ⟨rfl, m, rfl⟩
  go_wp2_with fail
  go_ret
  exact ⟨rfl, below_drawn hb0 m⟩

set_option maxRecDepth 100000 in
set_option maxHeartbeats 400000 in
theorem eqChunkS_same {A A' : Option Addr} {n c c' hi hi' : Nat} {ds : List (List UInt8)} (h : SeenC w hi A n ds) (h' : SeenC w hi' A' n ds) (hh : hi ≤ w.heap.size) (hh' : hi' ≤ w.heap.size) (hn : n ≤ 16777216) (hds : ∀ d ∈ ds, d.length ≤ 16777216) :
    Calls Try.prog 11 #[.slice A n c, .slice A' n c'] w fun e w' => e = .returned (.bool true) ∧ Below w.heap.size w w' := by
  have HL := Lib.hid h.1
  have HH := Lib.hid h
  have HH' := Lib.hid h'
  have HD := Lib.hid hds
  clear h h' hds
  go_enter Try.func11, Try.ntmps11
  go_wp2
  go_loopw [5] (fun i wr => ∃ k : Nat, k ≤ n ∧ i = .int .i64 k ∧ Below w.heap.size w wr) (fun i _ => n - (intOf i).toNat)
  case atStart => exact ⟨0, Nat.zero_le _, rfl, Below.refl _ _⟩
  case round =>
    obtain ⟨k, hk, rfl, hb⟩ := hrel
    have z := hb.size
    by_cases hlt : k < n
    · have hkd : k < ds.length := by rw [HL.out]; exact hlt
      obtain ⟨_, vs, hs, hel⟩ := HH.out.below hb hh
      obtain ⟨_, vs', hs', hel'⟩ := HH'.out.below hb hh'
      obtain ⟨Ai, ni, ci, e1, _, s1⟩ := hel k _ (List.getElem?_eq_getElem hkd)
      obtain ⟨Ai', ni', ci', e1', _, s1'⟩ := hel' k _ (List.getElem?_eq_getElem hkd)
      have hdk := HD.out _ (List.getElem_mem hkd)
      generalize ds[k] = d at *
      obtain rfl : ni = ni' := by have a := s1.len; have b := s1'.len; omega
      have hni : ni ≤ 16777216 := by have a := s1.len; simp at a; omega
      obtain ⟨g, o, u, rfl, hg, hu, hc⟩ := hs.at_ (j := k) (by omega)
      obtain ⟨g', o', u', rfl, hg', hu', hc'⟩ := hs'.at_ (j := k) (by omega)
      rw [e1] at hu
      rw [e1'] at hu'
      injection hu with hu
      injection hu' with hu'
      subst hu hu'
      clear hel hel' e1 e1' hs hs'
      have hi0 : (0 : Int) ≤ (k : Int) := by omega
      have hi1 : (k : Int) < (n : Int) := by omega
      have HE := Lib.hid (fun (W : World) (hW : Below wr.heap.size wr W) => eqChunk_same (c := ci) (c' := ci') (s1.below hW (by omega)) (s1'.below hW (by omega)) (by have := hW.size; omega) (by have := hW.size; omega) hni)
      clear s1 s1'
      have hb0 : Below wr.heap.size wr wr.drew := (Below.refl _ _).drew
      go_wp2_with fail
      go_region_with (go_at_call 23; refine (HE.out _ hb0).mono ?_; rintro e w1 ⟨rfl, hb1⟩)
      all_goals
        have hbb : Below w.heap.size w w1 := hb.drew.trans (hb1.mono z)
        clear hb1 HE hc hc'
        go_wp2_with fail
        go_roundw
        case rel => exact ⟨k + 1, by omega, by go_num, hbb⟩
        case measure => simp [intOf]; omega
    · go_wp2
      go_ret
      exact ⟨rfl, hb⟩
end

/-- How many bytes there are in all. -/
def tot (ds : List (List UInt8)) : Nat := (ds.map List.length).sum
def marksC : Nat → List (List UInt8) → List (List UInt8)
  | _, [] => []
  | k, d :: ds => marks k d.length :: marksC (k + d.length) ds
theorem marksC_length (ds : List (List UInt8)) : ∀ k, (marksC k ds).length = ds.length := by
  induction ds with
  | nil => intro k; rfl
  | cons d ds ih => intro k; simp [marksC, ih]
theorem marksC_get (ds : List (List UInt8)) : ∀ (k i : Nat) (d : List UInt8), ds[i]? = some d → (marksC k ds)[i]? = some (marks (k + tot (ds.take i)) d.length) := by
  induction ds with
  | nil => intro k i d h; simp at h
  | cons e ds ih =>
    intro k i d h
    cases i with
    | zero =>
      have : e = d := by simpa using h
      subst this
      simp [marksC, tot]
    | succ i =>
      have := ih (k + e.length) i d (by simpa using h)
      simpa [marksC, tot, Nat.add_assoc] using this
theorem tot_take {ds : List (List UInt8)} {i : Nat} {d : List UInt8} (h : ds[i]? = some d) : tot (ds.take (i + 1)) = tot (ds.take i) + d.length := by
  obtain ⟨hi, e⟩ := List.getElem?_eq_some_iff.1 h
  rw [List.take_succ_eq_append_getElem hi, e]
  simp [tot]
theorem tot_take_le (ds : List (List UInt8)) (i : Nat) : tot (ds.take i) ≤ tot ds := by
  have : tot (ds.take i ++ ds.drop i) = tot (ds.take i) + tot (ds.drop i) := by simp [tot, -List.take_append_drop]
  rw [List.take_append_drop] at this
  omega
theorem tot_ge {ds : List (List UInt8)} {d : List UInt8} (h : d ∈ ds) : d.length ≤ tot ds := by
  induction ds with
  | nil => cases h
  | cons e ds ih =>
    simp only [tot, List.map_cons, List.sum_cons]
    rcases List.mem_cons.1 h with h | h
    · subst h; omega
    · have := ih h; simp only [tot] at this; omega

section

variable {w : World} {lo hi n c k : Nat} {A : Option Addr} {ds : List (List UInt8)}

/-- The first j rows of bytes are marked. -/
def MkAt (wr : World) (lo hi k j : Nat) (ds : List (List UInt8)) (vs : List Value) : Prop :=
  ∀ (i : Nat) (d : List UInt8), ds[i]? = some d → ∃ Ai ni ci, vs[i]? = some (Value.slice Ai ni ci) ∧ Own wr lo hi 5 1 Ai ni ci ((if i < j then marks (k + tot (ds.take i)) d.length else d).map B)

def MarkedC (w : World) (lo hi : Nat) (A : Option Addr) (n c k : Nat) (ds : List (List UInt8)) (en : Ending) (w' : World) : Prop :=
  en = .returned (.int .i64 ((k + tot ds : Nat) : Int)) ∧ Chunks w' lo hi A n c (marksC k ds) ∧ Turned lo hi w w'

theorem mk_step {wr w1 : World} {j l r : Nat} {vs : List Value} {Aj : Option Addr} {nj cj : Nat} {d : List UInt8} (hat : MkAt wr lo hi k j ds vs) (hd : ds[j]? = some d) (hv : vs[j]? = some (Value.slice Aj nj cj))
    (hlr : blkA Aj = none ∧ l = r ∨ ∃ g, blkA Aj = some g ∧ l = g ∧ r = g + 1) (ht : Turned l r wr w1) (how : Own w1 l r 5 1 Aj nj cj ((marks (k + tot (ds.take j)) nj).map B)) (hnj : nj = d.length)
    (hp : ∀ (i j g : Nat), i < j → vs[i]?.bind blkV = some g → vs[j]?.bind blkV ≠ some g) : MkAt w1 lo hi k (j + 1) ds vs := by
  intro i x hx
  obtain ⟨Ai, ni, ci, e, o⟩ := hat i x hx
  by_cases hij : i = j
  · subst hij
    rw [hd] at hx
    injection hx with hx
    subst hx
    rw [e] at hv
    injection hv with hv
    injection hv with h1 h2 h3
    subst h1 h2 h3 hnj
    refine ⟨Ai, _, ci, e, ?_⟩
    rw [if_pos (by omega)]
    refine ⟨⟨how.1.1, ?_⟩, o.2⟩
    rcases how.1.2 with hn | ⟨g, cap, cur, hv, hb, rest⟩
    · exact .inl hn
    · refine .inr ⟨g, cap, cur, hv, ?_, rest⟩
      injection hv with hA _ _
      exact (o.blk (by rw [hA]; rfl)).1
  · refine ⟨Ai, ni, ci, e, ?_⟩
    have he : (if i < j + 1 then marks (k + tot (ds.take i)) x.length else x) = (if i < j then marks (k + tot (ds.take i)) x.length else x) := by
      by_cases h : i < j
      · rw [if_pos h, if_pos (by omega)]
      · rw [if_neg h, if_neg (by omega)]
    rw [he]
    refine o.keepAt fun g hg => ht.block g (o.blk hg).2.2 ?_
    rcases hlr with ⟨_, rfl⟩ | ⟨g', hg', rfl, rfl⟩
    · omega
    · have hne : g ≠ l := by
        rintro rfl
        have a1 : vs[i]?.bind blkV = some g := by rw [e]; exact hg
        have a2 : vs[j]?.bind blkV = some g := by rw [hv]; exact hg'
        rcases Nat.lt_or_ge i j with h | h
        · exact hp i j g h a1 a2
        · exact hp j i g (by omega) a2 a1
      omega

set_option maxRecDepth 100000 in
set_option maxHeartbeats 400000 in
theorem markChunkS_any (h : Chunks w lo hi A n c ds) (hn : n ≤ 16777216) (hk : k + tot ds ≤ 16777216) :
    Calls Try.prog 12 #[.slice A n c, .int .i64 (k : Int)] w (MarkedC w lo hi A n c k ds) := by
  obtain ⟨hl, vs, hrow, hel, hap, hpw⟩ := h
  have HL := Lib.hid hl
  have HP := Lib.hid hpw
  have HA := Lib.hid hap
  have hat0 : MkAt w lo hi k 0 ds vs := fun i d hd => let ⟨Ai, ni, ci, e, o⟩ := hel i d hd; ⟨Ai, ni, ci, e, by rw [if_neg (by omega)]; exact o⟩
  clear hl hpw hap hel
  go_enter Try.func12, Try.ntmps12
  go_wp2_with fail
  go_loopw [1, 5] (fun q i wr => ∃ j : Nat, j ≤ n ∧ i = .int .i64 j ∧ q = .int .i64 ((k + tot (ds.take j) : Nat) : Int) ∧ Own wr lo hi 40 1 A n c vs ∧ MkAt wr lo hi k j ds vs ∧ Turned lo hi w wr) (fun _ i _ => n - (intOf i).toNat)
  case atStart => exact ⟨0, Nat.zero_le _, rfl, by simp [tot], hrow, hat0, Turned.refl _ _ _⟩
  case round =>
    clear hrow hat0
    obtain ⟨j, hj, rfl, rfl, hrow, hat, htu⟩ := hrel
    have HAT := Lib.hid hat
    clear hat
    have hb1 := tot_take_le ds j
    by_cases hlt : j < n
    · have hjd : j < ds.length := by rw [HL.out]; exact hlt
      have hd := Lib.hid (List.getElem?_eq_getElem hjd)
      obtain ⟨Aj, nj, cj, e, o⟩ := HAT.out j _ hd.out
      rw [if_neg (by omega)] at o
      have hnj := Lib.hid (show nj = ds[j].length by have := o.len; simp at this; omega)
      have hnj2 : nj ≤ 16777216 := by have := tot_ge (List.getElem_mem hjd); rw [hnj.out]; omega
      have htt := Lib.hid (tot_take hd.out)
      have E := Lib.hid e
      obtain ⟨l, r, on, hlr⟩ := o.narrow
      have HLR := Lib.hid hlr
      obtain ⟨g, rfl, hg1, hg2, hg3⟩ := hrow.form (by omega)
      have hcell := hrow.cell e
      clear hlr e
      generalize ds[j] = d at *
      go_wp2_with fail
      refine (markByteS_any on hnj2 (by omega)).mono ?_
      rintro e w1 ⟨rfl, own1, ht1⟩
      have hat1 := mk_step HAT.out hd.out E.out HLR.out ht1 own1 hnj.out HP.out
      have hkeep : ∀ k, k < wr.heap.size → (k < lo ∨ hi ≤ k ∨ k = g) → w1.heap[k]? = wr.heap[k]? := by
        intro k hk hk2
        refine ht1.block k hk ?_
        rcases HLR.out with ⟨_, e⟩ | ⟨g', hg', e1, e2⟩
        · omega
        · have := o.blk hg'
          have hne : k ≠ g' := by
            rintro rfl
            rcases hk2 with hk2 | hk2 | hk2
            · omega
            · omega
            · subst hk2
              exact HA.out j k (by rw [E.out]; exact hg') rfl
          omega
      have hrow1 := hrow.keepAt (w' := w1) fun g' hg' => by
        have : g = g' := by simpa [blkA] using hg'
        subst this
        exact hkeep _ hg3 (by omega)
      have ht2 : Turned lo hi w w1 := htu.trans ⟨ht1.os, ht1.tape, ht1.output, ht1.size, fun k hk hk2 => hkeep k hk (by omega)⟩
      have HAT1 := Lib.hid hat1
      clear hat1 ht1 own1 on o hcell hrow hkeep HAT htu
      go_wp2_with fail
      go_roundw
      case rel => exact ⟨j + 1, by omega, by go_num, by rw [htt.out, ← hnj.out]; go_num, hrow1, HAT1.out, ht2⟩
      case measure => simp [intOf]; omega
    · go_wp2_with fail
      go_ret
      obtain rfl : j = n := by omega
      have htk : ds.take j = ds := List.take_of_length_le (by rw [HL.out]; exact Nat.le_refl _)
      refine ⟨by rw [htk]; rfl, ⟨by rw [marksC_length, HL.out], vs, hrow, ?_, HA.out, HP.out⟩, htu⟩
      intro i x hx
      have hil : i < ds.length := by have := (List.getElem?_eq_some_iff.1 hx).1; rwa [marksC_length] at this
      have hm := marksC_get ds k i _ (List.getElem?_eq_getElem hil)
      rw [hx] at hm
      injection hm with hm
      obtain ⟨Ai, ni, ci, e, o⟩ := HAT.out i _ (List.getElem?_eq_getElem hil)
      rw [if_pos (by rw [HL.out] at hil; exact hil), ← hm] at o
      exact ⟨Ai, ni, ci, e, o⟩

end

end Go.Proofs.Ytlaiiphngekhnaa
