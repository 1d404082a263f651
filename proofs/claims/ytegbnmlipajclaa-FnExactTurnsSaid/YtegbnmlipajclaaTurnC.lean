
/- Turns, the program's: slices.AppendSeq and slices.Collect over the iterator; Turns. -/

import Derived.Test.YtegbnmlipajclaaTurnI

import Derived.Test.YtegbnmlipajclaaGInv

import Derived.Deep.Cut

namespace Go.Proofs.Ytegbnmlipajclaa
set_option linter.unusedSimpArgs false
set_option linter.unusedVariables false
open Go.RowKit
attribute [local go_sem] Oper.semAt_some

def tcells (k : Nat) : List Value := ((turnsTo k).map turnCells).flatten
/-- Between two rounds: the record, the deferred, the box with the row so far; nothing older has turned but the source. -/
def SeqJ (rec : LoopState → Option Code → Loop) (w : World) (bt : Nat) (k : Nat) (W : World) : Prop :=
  W.heap[w.heap.size + 2]? = some (.loop (rec .ready none)) ∧ W.heap[w.heap.size + 1]? = some (.deferred (some [])) ∧ (∃ v, Boxed W w.heap.size 28 v ∧ W.ownsRow w.heap.size 34 2 v k (tcells k)) ∧ TurnedF (fun b => b = bt) w W
theorem row_kept {W W' : World} {base k bt : Nat} {e : TypeId} {size : Nat} {v : Value} {xs : List Value} (h : W.ownsRow base e size v k xs) (ht : TurnedF (fun b => b = bt) W W') (hb : bt < base) : W'.ownsRow base e size v k xs := by
  refine ⟨h.1, ?_⟩
  rcases h.2 with hn | ⟨g, cap, cur, hv, hg, hx, rest⟩
  · exact .inl hn
  · exact .inr ⟨g, cap, cur, hv, hg, (ht.block g (Array.getElem?_eq_some_iff.1 hx).1 (fun he => by omega)).trans hx, rest⟩
theorem SeqJ.kept {rec : LoopState → Option Code → Loop} {w : World} {bt k : Nat} {W W' : World} (h : SeqJ rec w bt k W) (hb : bt < w.heap.size) (ht : TurnedF (fun b => b = bt) W W') : SeqJ rec w bt k W' := by
  obtain ⟨h1, h2, ⟨v, h3, h4⟩, h5⟩ := h
  have l1 := (Array.getElem?_eq_some_iff.1 h1).1
  have l2 := (Array.getElem?_eq_some_iff.1 h2).1
  have l3 := h3.lt
  exact ⟨(ht.block _ l1 (by omega)).trans h1, (ht.block _ l2 (by omega)).trans h2, ⟨v, (ht.block _ l3 (by omega)).trans h3, row_kept h4 ht hb⟩, h5.trans ht⟩

set_option maxRecDepth 100000 in
set_option maxHeartbeats 8000000 in
theorem appendSeqT_any {w : World} {bt bf N : Nat} {m : Int} (hbt : w.heap[bt]? = some (.cells #[.int .i64 0, .int .i64 m] 41 (0, 0))) (hbf : w.heap[bf]? = some (.cells #[.iface 39 (.pointer (some ⟨bt, 0, none⟩))] 45 (0, 0)))
    (h4 : bf ≠ bt) (hN : N ≤ 2000) (hm : ∀ k : Nat, k < N ↔ (k : Int) < m) :
    Calls Try.prog 18 #[.slice none 0 0, .func (.func 19) #[] #[.pointer (some ⟨bf, 0, none⟩)]] w fun e w' => ∃ A c, e = .returned (.slice A N c) ∧ Own w' w.heap.size w'.heap.size 34 2 A N c (tcells N) ∧ TurnedF (fun b => b = bt) w w' := by
  have hlt : bt < w.heap.size := (Array.getElem?_eq_some_iff.1 hbt).1
  have hlf : bf < w.heap.size := (Array.getElem?_eq_some_iff.1 hbf).1
  refine (callsIn_wide (n := 9)).1 ?_
  refine callsIn_of_wp_marks Try.func18 rfl trivial ?_ rfl
  simp only [Try.ntmps18, List.size_toArray, List.length_cons, List.length_nil, Nat.reduceAdd, Nat.reduceSub, Array.replicate_succ, Array.replicate_zero, List.push_toArray, List.append_toArray, List.nil_append, List.cons_append]
  gi_wp2_with fail
  refine range_calls rfl (fenters_of' Try.func19 (by kernel_rfl) (by kernel_rfl)) ?_
  intro fn rec hrec W1 hW1
  have HREC := Lib.hid hrec
  clear hrec
  have hs0 : (w.alloc (.cells #[.slice none 0 0] 28)).heap.size = w.heap.size + 1 := by simp
  have hb0 : Below w.heap.size w (w.alloc (.cells #[.slice none 0 0] 28)) := (Below.refl _ _).alloc (Nat.le_refl _) _
  have hv0 : Boxed (w.alloc (.cells #[.slice none 0 0] 28)) w.heap.size 28 (.slice none 0 0) := Boxed.new _ _ _
  generalize (w.alloc (.cells #[.slice none 0 0] 28)) = W0 at *
  simp only [hs0] at HREC hW1 ⊢
  have hb1 : Below W0.heap.size W0 W1 := by rw [hW1]; exact ((Below.refl _ _).alloc (Nat.le_refl _) _).alloc (by simp) _
  have hs1 : W1.heap.size = w.heap.size + 3 := by rw [hW1]; simp [hs0]
  have hl1 : W1.heap[w.heap.size + 2]? = some (.loop (rec .ready none)) := by rw [hW1]; have := World.alloc_heap_new (W0.alloc (.deferred (some []))) (.loop (rec .ready none)); rwa [World.size_alloc, hs0] at this
  have hD1 : W1.heap[w.heap.size + 1]? = some (.deferred (some [])) := by rw [hW1]; have := (Below.heap_alloc (W0.alloc (.deferred (some []))) (.loop (rec .ready none)) W0.heap.size (by simp)).trans (World.alloc_heap_new W0 (.deferred (some []))); rwa [hs0] at this
  clear hW1
  have hv1 : Boxed W1 w.heap.size 28 (.slice none 0 0) := (hb1.block _ (by omega)).trans hv0
  have hb2 : Below w.heap.size w W1 := hb0.trans (hb1.mono (by omega))
  have h0 : SeqJ rec w bt 0 W1 := ⟨hl1, hD1, ⟨_, hv1, World.ownsRow_nil _ _ _ _⟩, TurnedF.of_below hb2 _⟩
  have hbt1 := box_keep hbt hb2 hlt
  have hbf1 := box_keep hbf hb2 hlf
  obtain ⟨i0, hi0, iz0, iz1, iz2⟩ := info_parts (show (Try.prog.info? 34).map (fun i => (i.zero, i.size, i.bytes)) = some (some (.agg #[.int .i64 0, .int .i64 0]), 2, 16) by kernel_rfl)
  have HY := Lib.hid (show ∀ (k : Nat) (W : World), k < N → w.heap.size ≤ W.heap.size → SeqJ rec w bt k W → YieldAt Fence.wide 8 Try.prog (w.heap.size + 2) #[.agg #[.int .i64 (k : Int), .int .i64 (k : Int)]] W fun e W' => e = .returned (.bool true) ∧ SeqJ rec w bt (k + 1) W' ∧ Below w.heap.size W W' from by
    rintro k W hk hz ⟨hl, hD, ⟨v, hv, hrow⟩, hT⟩
    refine round_at HREC.out hl rfl ?_
    gi_wp2_with fail
    have hal : Below W.heap.size W (W.alloc (.cells #[.int .i64 (k : Int), .int .i64 (k : Int)] 34)) := (Below.refl _ _).alloc (Nat.le_refl _) _
    have hx := box_new W #[.int .i64 (k : Int), .int .i64 (k : Int)] 34
    have hza : (W.alloc (.cells #[.int .i64 (k : Int), .int .i64 (k : Int)] 34)).heap.size = W.heap.size + 1 := by simp
    have hlW := lt_of_block hl
    have hla := box_keep hl hal hlW
    have hDa := box_keep hD hal (lt_of_block hD)
    have hva : Boxed _ w.heap.size 28 v := (hal.block _ hv.lt).trans hv
    have hra := row_kept hrow (TurnedF.of_below hal (fun b => b = bt)) hlt
    have hTa := hT.trans (TurnedF.of_below hal (fun b => b = bt))
    have hk0 : Below w.heap.size W (W.alloc (.cells #[.int .i64 (k : Int), .int .i64 (k : Int)] 34)) := hal.mono hz
    clear hl hD hv hrow hT hal
    generalize (W.alloc (.cells #[.int .i64 (k : Int), .int .i64 (k : Int)] 34)) = Wa at *
    have hrun := run_beginRound (P := Try.prog) hla (by rw [HREC.out])
    obtain ⟨hp1, hp2, hp3, hp4⟩ := putObj_facts (o' := .loop { rec .ready none with state := .busy }) hla
    generalize hW2 : (Wa.putObj (w.heap.size + 2) (.loop { rec .ready none with state := .busy })) = W2 at hrun hp1 hp2 hp3 hp4
    refine ⟨W2, hrun, ?_⟩
    clear hrun hW2
    have hxb := (hp2 W.heap.size (by omega)).trans hx
    have hvb : Boxed W2 w.heap.size 28 v := (hp2 _ (by omega)).trans hva
    have hDb := (hp2 (w.heap.size + 1) (by omega)).trans hDa
    have hrb : W2.ownsRow w.heap.size 34 2 v k (tcells k) := by
      refine ⟨hra.1, ?_⟩
      rcases hra.2 with hn | ⟨g, cap, cur, hvv, hg, hxx, rest⟩
      · exact .inl hn
      · exact .inr ⟨g, cap, cur, hvv, hg, (hp2 g (fun he => by rw [he, hla] at hxx; simp at hxx)).trans hxx, rest⟩
    have hzb : w.heap.size ≤ W2.heap.size := by omega
    have HKB := Lib.hid (show Below w.heap.size W W2 from hk0.trans ⟨hp4.os, hp4.tape, hp4.output, hp4.size, fun j hj => hp2 j (by omega)⟩)
    have HTB := Lib.hid (show TurnedF (fun b => b = bt) w W2 from ⟨hp4.os.trans hTa.os, hp4.tape.trans hTa.tape, hp4.output.trans hTa.output, Nat.le_trans hTa.size hp4.size, fun j hj hn => (hp2 j (by omega)).trans (hTa.block j hj hn)⟩)
    have hw2 : W.heap.size < W2.heap.size := by omega
    clear hx hla hDa hva hra hTa hk0 hp2 hp4 hp3 hza
    have xc0 := box_cell (j := 0) hxb rfl
    have xc1 := box_cell (j := 1) hxb rfl
    have vc0 := hvb.cell
    have HL := Lib.hid hp1
    clear hp1
    have hnews := (seen_cells W2 [.int .i64 (k : Int), .int .i64 (k : Int)] 34).news rfl
    have hrA := hrb.alloc (.cells ([.int .i64 (k : Int), .int .i64 (k : Int)]).toArray 34)
    gi_wp2_with (gi_at_builtin; refine wpListIn_append_own _ rfl (.tmp 8) (.tmp 10) _ rfl w.heap.size 34 i0 _ 2 16 Try.underlying28 hi0 iz0 iz1 iz2 rfl (by decide) _ k _ rfl hrA _ 1 1 _ rfl rfl hnews (by simp [Value.oneCell']) (by simp only [maxLen]; omega) (by omega) (by simp; omega) ?_; intro v' w3 hown' hg3 hnil3; obtain ⟨a1, a2, a3, a4, a5⟩ := Boxed.appended hvb (by decide) hrb hzb (Nat.le_refl _) hown' hg3; obtain ⟨g, cap, rfl⟩ := ownsRow_succ hown'; have hc3 := a1.cell; have hf3 := a1.frozen)
    have hl9 := a4.same _ _ HL.out rfl
    have hD9 := a4.same _ _ hDb rfl
    have hre := round_end (P := Try.prog) HREC.out none hl9
    obtain ⟨q1, q2, q3, q4⟩ := putObj_facts (o' := .loop (rec .ready none)) hl9
    refine ⟨_, _, hre, rfl, ⟨q1, (q2 _ (by omega)).trans hD9, ⟨_, (q2 _ (by omega)).trans a2, ?_⟩, ?_⟩, ?_⟩
    · have h9 := ownsRow_putObj a3 (.loop (rec .ready none)) hl9 rfl
      unfold tcells at h9 ⊢
      rw [turnsTo_cells]
      exact h9
    · exact ⟨(q4.os.trans a5.os).trans HTB.out.os, (q4.tape.trans a5.tape).trans HTB.out.tape, (q4.output.trans a5.output).trans HTB.out.output, Nat.le_trans HTB.out.size (Nat.le_trans a5.size q4.size), fun j hj hn => ((q2 j (by omega)).trans (a5.block j hj)).trans (HTB.out.block j hj hn)⟩
    · exact (HKB.out.trans a5).trans ⟨q4.os, q4.tape, q4.output, q4.size, fun j hj => q2 j (by omega)⟩)
  have HM := Lib.hid hm
  clear hm
  refine (iterT_any (l := w.heap.size + 2) (lo := w.heap.size) hbt1 hbf1 hlt hlf (by omega) h4 hN HM.out (SeqJ rec w bt) (fun k W W' hj hz ht => hj.kept hlt ht) (fun k W hk hz hj => HY.out k W hk hz hj) h0).mono ?_
  rintro e W2 ⟨hvv, hl, hD, ⟨v, hv, hrow⟩, hT⟩
  obtain ⟨A, c, rfl, hown⟩ := Own.of_row hrow (Nat.le_refl _)
  refine ⟨hvv, none, _, loop_end HREC.out hl (by decide), ?_⟩
  obtain ⟨q1, q2, q3, q4⟩ := putObj_facts (o' := .loop (rec .exhausted none)) hl
  have hv4 : Boxed _ w.heap.size 28 (.slice A N c) := (q2 _ (by omega)).trans hv
  have hD4 := (q2 (w.heap.size + 1) (by omega)).trans hD
  have hr4 := ownsRow_putObj hrow (.loop (rec .exhausted none)) hl rfl
  have hT4 : TurnedF (fun b => b = bt) w (W2.putObj (w.heap.size + 2) (.loop (rec .exhausted none))) := ⟨q4.os.trans hT.os, q4.tape.trans hT.tape, q4.output.trans hT.output, Nat.le_trans hT.size q4.size, fun j hj hn => (q2 j (by omega)).trans (hT.block j hj hn)⟩
  generalize (W2.putObj (w.heap.size + 2) (.loop (rec .exhausted none))) = W4 at *
  have hc4 := hv4.cell
  clear q1 q2 q3 q4 hl hD hv hrow hT hown hbt1 hbf1 h0 hb2 hv1 hD1 hl1 hs1 hb1 HY HREC HM hv0 hb0
  gi_wp2_with fail
  refine ⟨by simp, .inl ⟨_, _, rfl, run_takeDeferred hD4, ?_⟩⟩
  obtain ⟨t1, t2, t3, t4⟩ := putObj_facts (o' := .deferred none) hD4
  have hr5 := ownsRow_putObj hr4 (.deferred none) hD4 rfl
  refine ⟨_, results_tmp rfl _ _ _, ?_⟩
  obtain ⟨A', c', he, hown'⟩ := Own.of_row hr5 (Nat.le_refl _)
  injection he with he1 he2 he3
  subst he1 he3
  exact ⟨A, c, rfl, hown', ⟨t4.os.trans hT4.os, t4.tape.trans hT4.tape, t4.output.trans hT4.output, Nat.le_trans hT4.size t4.size, fun j hj hn => (t2 j (by omega)).trans (hT4.block j hj hn)⟩⟩

set_option maxRecDepth 100000 in
set_option maxHeartbeats 8000000 in
theorem collectT_any {w : World} {bt bf N : Nat} {m : Int} (hbt : w.heap[bt]? = some (.cells #[.int .i64 0, .int .i64 m] 41 (0, 0))) (hbf : w.heap[bf]? = some (.cells #[.iface 39 (.pointer (some ⟨bt, 0, none⟩))] 45 (0, 0)))
    (h4 : bf ≠ bt) (hN : N ≤ 2000) (hm : ∀ k : Nat, k < N ↔ (k : Int) < m) :
    Calls Try.prog 15 #[.func (.func 19) #[] #[.pointer (some ⟨bf, 0, none⟩)]] w fun e w' => ∃ A c, e = .returned (.slice A N c) ∧ Own w' w.heap.size w'.heap.size 34 2 A N c (tcells N) ∧ TurnedF (fun b => b = bt) w w' := by
  have HA := Lib.hid (appendSeqT_any hbt hbf h4 hN hm)
  clear hbt hbf hm
  go_enter Try.func15, Try.ntmps15
  go_wp2_with fail
  refine HA.out.mono ?_
  rintro e w1 ⟨A, c, rfl, hown, hT⟩
  go_wp2_with fail
  go_ret
  exact ⟨A, c, rfl, hown, hT⟩

set_option maxRecDepth 100000 in
set_option maxHeartbeats 8000000 in
theorem implTurns_any (n : Int) (w : World) : Calls Try.prog 9 #[.int .i64 n] w (MadeRow layPick 34 w (turnsTo (turnN n))) := by
  obtain ⟨N, hN⟩ : ∃ N, N = turnN n := ⟨_, rfl⟩
  have hN2 : N ≤ 2000 := by rw [hN]; exact turnN_le n
  rw [← hN]
  have HN := Lib.hid (show ∀ k : Nat, k < N ↔ (k : Int) < (if n ≤ 2000 then n else 2000) by intro k; rw [hN]; unfold turnN; split <;> omega)
  clear hN
  by_cases hn : n ≤ 2000
  · have HK := Lib.hid (show ∀ k : Nat, k < N ↔ (k : Int) < n by intro k; have := HN.out k; rwa [if_pos hn] at this)
    have hb0 : Below w.heap.size w (w.alloc (.cells #[.int .i64 0, .int .i64 n] 41)) := (Below.refl _ _).alloc (Nat.le_refl _) _
    have hbt0 := box_new w #[.int .i64 0, .int .i64 n] 41
    have hz0 : (w.alloc (.cells #[.int .i64 0, .int .i64 n] 41)).heap.size = w.heap.size + 1 := by simp
    have hb1 : Below (w.heap.size + 1) (w.alloc (.cells #[.int .i64 0, .int .i64 n] 41)) ((w.alloc (.cells #[.int .i64 0, .int .i64 n] 41)).alloc (.cells #[.iface 39 (.pointer (some ⟨w.heap.size, 0, none⟩))] 45)) := (Below.refl _ _).alloc (by simp) _
    have hbf1 := box_new (w.alloc (.cells #[.int .i64 0, .int .i64 n] 41)) #[.iface 39 (.pointer (some ⟨w.heap.size, 0, none⟩))] 45
    rw [hz0] at hbf1
    have hbt1 := box_keep hbt0 hb1 (by omega)
    have hb2 := hb0.trans (hb1.mono (by omega))
    have HC := Lib.hid (collectT_any hbt1 hbf1 (by omega) hN2 HK.out)
    have HB := Lib.hid hb2
    clear hb0 hbt0 hz0 hb1 hbf1 hbt1 hb2
    go_enter Try.func9, Try.ntmps9
    go_wp2_with fail
    refine (picksOf_any _ _ _).mono ?_
    rintro e w1 ⟨rfl, rfl⟩
    go_wp2_with fail
    refine HC.out.mono ?_
    rintro e w2 ⟨A, c, rfl, hown, hT⟩
    go_wp2_with fail
    go_ret
    have hzz := HB.out.size
    have hz3 : w.heap.size + 2 ≤ w2.heap.size := by have := hT.size; simpa using this
    have ho2 := (hown.wider (lo' := w.heap.size) (by simp; omega) (Nat.le_refl _))
    exact ⟨A, c, by rw [turnsTo_len]; rfl, by rw [turnsTo_len]; exact turn_made hN2 ho2, HB.out.trans (hT.below (fun g hg => by omega) (by simp; omega))⟩
  · have HK := Lib.hid (show ∀ k : Nat, k < N ↔ (k : Int) < 2000 by intro k; have := HN.out k; rwa [if_neg hn] at this)
    have hb0 : Below w.heap.size w (w.alloc (.cells #[.int .i64 0, .int .i64 2000] 41)) := (Below.refl _ _).alloc (Nat.le_refl _) _
    have hbt0 := box_new w #[.int .i64 0, .int .i64 2000] 41
    have hz0 : (w.alloc (.cells #[.int .i64 0, .int .i64 2000] 41)).heap.size = w.heap.size + 1 := by simp
    have hb1 : Below (w.heap.size + 1) (w.alloc (.cells #[.int .i64 0, .int .i64 2000] 41)) ((w.alloc (.cells #[.int .i64 0, .int .i64 2000] 41)).alloc (.cells #[.iface 39 (.pointer (some ⟨w.heap.size, 0, none⟩))] 45)) := (Below.refl _ _).alloc (by simp) _
    have hbf1 := box_new (w.alloc (.cells #[.int .i64 0, .int .i64 2000] 41)) #[.iface 39 (.pointer (some ⟨w.heap.size, 0, none⟩))] 45
    rw [hz0] at hbf1
    have hbt1 := box_keep hbt0 hb1 (by omega)
    have hb2 := hb0.trans (hb1.mono (by omega))
    have HC := Lib.hid (collectT_any hbt1 hbf1 (by omega) hN2 HK.out)
    have HB := Lib.hid hb2
    clear hb0 hbt0 hz0 hb1 hbf1 hbt1 hb2
    go_enter Try.func9, Try.ntmps9
    go_wp2_with fail
    refine (picksOf_any _ _ _).mono ?_
    rintro e w1 ⟨rfl, rfl⟩
    go_wp2_with fail
    refine HC.out.mono ?_
    rintro e w2 ⟨A, c, rfl, hown, hT⟩
    go_wp2_with fail
    go_ret
    have hzz := HB.out.size
    have hz3 : w.heap.size + 2 ≤ w2.heap.size := by have := hT.size; simpa using this
    have ho2 := (hown.wider (lo' := w.heap.size) (by simp; omega) (Nat.le_refl _))
    exact ⟨A, c, by rw [turnsTo_len]; rfl, by rw [turnsTo_len]; exact turn_made hN2 ho2, HB.out.trans (hT.below (fun g hg => by omega) (by simp; omega))⟩
end Go.Proofs.Ytegbnmlipajclaa
