/- The contract of the model's GetVar, which reads digits and writes them again. -/
import Derived.Test.YtedildbhgcmenaaGetVar
namespace Go.Proofs.Ytedildbhgcmenaa
open Go.RowKit

theorem conv_seen {w : World} {hi n c : Nat} {A : Option Addr} {bs : List UInt8} (h : Seen w hi 1 A n (bs.map B)) (nq : Nat) :
    (convert 22 9 (.slice A n c)).run Try.prog (w.drewN nq) = .ok (.string ⟨bs.toArray⟩) (w.drewN nq) := by
  have hl := h.len
  rcases A with _ | ad
  · have hb : bs = [] := by
      rcases h.2 with h0 | ⟨g, o, e, _⟩
      · simpa using h0
      · cases e
    subst hb
    exact run_convert_bytes_nil (P := Try.prog) _ 22 5 Try.underlying22 Try.underlying5 n c 9 Try.underlying9
  · have hload := run_loadCells_list (P := Try.prog) (w.drewN nq) ad (bs.map B) (fun j v hj => h.news rfl j v hj)
    rw [hl, show bs.map B = (bs.map fun b => (b.toNat : Int)).map (Value.int .u8) from by simp [Function.comp_def]] at hload
    rw [run_convert_bytes_string (P := Try.prog) _ 22 9 5 _ n c Try.underlying22 Try.underlying5 Try.underlying9, run_bytesToString _ _ _ _ _ hload, foldl_push_bytes]
    simp [ByteArray.empty, ByteArray.emptyWithCapacity, Function.comp_def]
    rfl

theorem getVar_spec {bs : List UInt8} {m p k : Nat} {x : UInt8} (hl : bs.length = m) (hp : p < m) (hk : k < 5) (hh : High (bs.drop p) k) (hx : (bs.drop p)[k]? = some x) (hlt : x.toNat < 128) :
    getVar bs (p : Int) = if val ((bs.drop p).take (k + 1)) ≤ 4294967295 ∧ digits (val ((bs.drop p).take (k + 1))) = (bs.drop p).take (k + 1) then ((val ((bs.drop p).take (k + 1)) : Int), (p : Int) + k + 1, true) else (0, 0, false) := by
  rw [getVar_found hl hp hk hh hx hlt]
  have hkl : k < (bs.drop p).length := (List.getElem?_eq_some_iff.1 hx).1
  have hx' : (bs.drop p)[k] = x := (List.getElem?_eq_some_iff.1 hx).2
  have hlen : ((bs.drop p).take (k + 1)).length = k + 1 := by rw [List.length_take]; omega
  have hlast : ((bs.drop p).take (k + 1)).getLast? = some x := by
    rw [List.take_succ_eq_append_getElem hkl, hx']; simp
  have hiff : ¬ (x = 0 ∧ 0 < k) ↔ digits (val ((bs.drop p).take (k + 1))) = (bs.drop p).take (k + 1) := by
    constructor
    · intro hn
      apply digits_val
      · intro e; rw [e] at hlen; simp at hlen
      · intro i d hi he
        rw [hlen] at hi
        refine hh i d (by omega) ?_
        rw [List.getElem?_take, if_pos (by omega)] at he
        exact he
      · intro d hd
        rw [hlast] at hd
        injection hd with hd
        subst hd
        refine ⟨hlt, ?_⟩
        rw [hlen]
        by_cases h0 : x = 0
        · left; have : ¬ 0 < k := fun h => hn ⟨h0, h⟩; omega
        · exact .inr h0
    · rintro e ⟨h0, hk0⟩
      have := digits_last (val ((bs.drop p).take (k + 1)))
      rw [e, hlen, hlast, h0] at this
      rcases this with h | h
      · omega
      · exact h rfl
  simp only [hiff]

theorem val_back {T : List UInt8} {s : Nat} {x : UInt8} (hx : T[s]? = some x) : val (T.drop s) = val (T.drop (s + 1)) * 128 + x.toNat % 128 := by
  have hs : s < T.length := (List.getElem?_eq_some_iff.1 hx).1
  have hx' : T[s] = x := (List.getElem?_eq_some_iff.1 hx).2
  rw [List.drop_eq_getElem_cons hs, val, hx']
  omega

theorem val_bound (T : List UInt8) (h : T.length ≤ 5) : val T < 34359738368 := by
  have h1 := val_lt T
  have h2 : 128 ^ T.length ≤ 128 ^ 5 := Nat.pow_le_pow_right (by omega) h
  omega

set_option maxRecDepth 100000 in
set_option maxHeartbeats 1000000 in
theorem specGetVar_any {A : Option Addr} {m c hi : Nat} {bs : List UInt8} {w : World} (p : Int) (hsn : Seen w hi 1 A m (bs.map B)) (hhi : hi ≤ w.heap.size) (hm : m ≤ 2097152) (hmc : m ≤ c) :
    Calls Try.prog 15 #[.slice A m c, .int .i64 p] w fun e w' => e = int3 (getVar bs p) ∧ Below w.heap.size w w' := by
  have hlen0 : bs.length = m := by simpa using hsn.1
  have hlen := Lib.hid hlen0
  clear hlen0
  by_cases h0 : p < 0
  · have hfin : Hid (getVar bs p = (0, 0, false)) := by show getVar bs p = _; rw [getVar, if_neg (by omega)]
    go_enter Try.func15, Try.ntmps15
    go_wp2_with fail
    go_ret3
    rw [hfin.out]
    exact ⟨rfl, Below.refl _ _⟩
  by_cases h1 : (m : Int) ≤ p
  · have hfin : Hid (getVar bs p = (0, 0, false)) := by show getVar bs p = _; rw [getVar, if_neg (by have := hlen.out; omega)]
    go_enter Try.func15, Try.ntmps15
    go_wp2_with fail
    go_ret3
    rw [hfin.out]
    exact ⟨rfl, Below.refl _ _⟩
  obtain ⟨q, rfl⟩ := Int.eq_ofNat_of_zero_le (show 0 ≤ p by omega)
  have h2 : q < m := by omega
  clear h0 h1
  go_enter Try.func15, Try.ntmps15
  go_wp2_with fail
  go_loop [7] (fun i => ∃ k : Nat, k ≤ 5 ∧ q + k ≤ m ∧ i = .int .i64 ((q + k : Nat) : Int) ∧ High (bs.drop q) k) (fun i => q + 5 - (intOf i).toNat)
  case atStart => exact ⟨0, by omega, by omega, rfl, fun i d hi => by omega⟩
  case round =>
    obtain ⟨k, hk5, hkm, rfl, hh⟩ := hrel
    by_cases hlt : k < 5 ∧ q + k < m
    · obtain ⟨hlt1, hlt2⟩ := hlt
      obtain ⟨g, o, u, rfl, hg, hu, hc⟩ := hsn.at_ (j := q + k) (by omega)
      have hkb : q + k < bs.length := by rw [hlen.out]; exact hlt2
      have hx : u = B bs[q + k] := by simpa [List.getElem?_eq_getElem hkb] using hu.symm
      subst hx
      have hdx : Hid ((bs.drop q)[k]? = some bs[q + k]) := by show _ = _; rw [List.getElem?_drop, List.getElem?_eq_getElem hkb]
      generalize bs[q + k] = x at *
      clear hu
      have hx256 := x.toNat_lt
      by_cases hx : 128 ≤ x.toNat
      · go_wp2_with fail
        go_round
        case rel =>
          refine ⟨k + 1, by omega, by omega, by go_num, fun i d hi he => ?_⟩
          rcases Nat.lt_or_ge i k with hik | hik
          · exact hh i d hik he
          · have hie : i = k := by omega
            subst hie
            rw [hdx.out] at he
            injection he with he
            rw [← he]; exact hx
        case measure => simp [intOf]; omega
      · have hfd := Lib.hid (getVar_spec (p := q) (k := k) hlen.out h2 hlt1 hh hdx.out (by omega))
        clear hh hdx
        have hTl : Hid (((bs.drop q).take (k + 1)).length = k + 1) := by
          show _ = _
          rw [List.length_take, List.length_drop]; omega
        have hTg : Hid (∀ s y, ((bs.drop q).take (k + 1))[s]? = some y → w.cell? ⟨g, o + (q + s), none⟩ = some (B y)) := by
          intro s y hy
          rw [List.getElem?_take] at hy
          split at hy
          · rw [List.getElem?_drop] at hy
            have := hsn.news rfl (q + s) (B y) (by rw [List.getElem?_map, hy]; rfl)
            rwa [add_plain] at this
          · cases hy
        generalize (bs.drop q).take (k + 1) = T at *
        have he1 : ((q : Int) + (k : Int) == (m : Int)) = false := by simp only [beq_eq_false_iff_ne]; omega
        have he2 : ((q : Int) + (k : Int) == (q : Int) + 5) = false := by simp only [beq_eq_false_iff_ne]; omega
        go_wp2_with fail
        clear he1 he2
        go_loop [8, 9] (fun n i => ∃ r : Nat, r ≤ k + 1 ∧ i = .int .i64 ((q : Int) + (r : Int) - 1) ∧ n = .int .i64 ((val (T.drop r) : Nat) : Int)) (fun _ i => (intOf i + 1 - q).toNat)
        case atStart =>
          refine ⟨k + 1, Nat.le_refl _, by go_num, ?_⟩
          rw [List.drop_of_length_le (by rw [hTl.out]; exact Nat.le_refl _)]
          rfl
        case round =>
          obtain ⟨r, hr, rfl, rfl⟩ := hrel
          cases r with
          | succ s =>
            have hsT : s < T.length := by rw [hTl.out]; omega
            have hcs := hTg.out s T[s] (List.getElem?_eq_getElem hsT)
            have hvb := Lib.hid (val_back (List.getElem?_eq_getElem hsT))
            generalize T[s] = y at *
            have hV := val_bound (T.drop (s + 1)) (by rw [List.length_drop, hTl.out]; omega)
            rw [show ((q : Int) + ((s + 1 : Nat) : Int) - 1) = ((q + s : Nat) : Int) from by omega]
            generalize hVe : val (T.drop (s + 1)) = V at *
            clear hVe
            have hy256 := y.toNat_lt
            go_wp2_with fail
            go_round
            case rel => exact ⟨s, by omega, by go_num, by rw [hvb.out]; go_num⟩
            case measure => simp [intOf]; omega
          | zero =>
            rw [List.drop_zero]
            have hV := val_bound T (by rw [hTl.out]; omega)
            by_cases hN : val T ≤ 4294967295
            · have hput : putVar [] ((val T : Nat) : Int) = (digits (val T), true) := by rw [putVar, if_pos (by omega)]; simp
              have hcon := specPutVar_any (A := none) (m := 0) (c := 0) (hi := 0) (bs := []) (w := w) ((val T : Nat) : Int) Seen.nil_ (Nat.zero_le _) (by omega)
              rw [hput] at hcon
              have hcon' := Lib.hid hcon
              clear hcon hput
              go_wp2_with fail
              refine hcon'.out.mono ?_
              clear hcon'
              rintro e w1 ⟨A1, n1, c1, rfl, own1, hb1⟩
              have k1 := conv_seen (c := c1) own1.seen
              have hsT : Seen w1 hi 1 (some ⟨g, o + q, none⟩) (k + 1) (T.map B) := by
                refine ⟨by simp [hTl.out], .inr ⟨g, o + q, rfl, hg, fun j u hu => ?_⟩⟩
                obtain ⟨y, hy, rfl⟩ : ∃ y, T[j]? = some y ∧ B y = u := by simpa using hu
                rw [hb1.cell (p := ⟨g, o + q + j, none⟩) (by simp; omega), Nat.add_assoc]
                exact hTg.out j y hy
              have k2 := conv_seen (c := c - q) hsT
              clear hsT hTg
              go_wp2_with fail
              have hs0 : (0 : Int) ≤ (q : Int) := by omega
              have hs1 : (q : Int) ≤ (q : Int) + (k : Int) + 1 := by omega
              have hs2 : (q : Int) + (k : Int) + 1 ≤ (c : Int) := by omega
              have hs3 : ((q : Int) + (k : Int) + 1).toNat = q + k + 1 := by omega
              have hs4 : q + k + 1 - q = k + 1 := by omega
              have hs5 : ¬ c = q := by omega
              have hs6 : IntKind.i64.wrap ((q : Int) + (k : Int) + 1) = (q : Int) + (k : Int) + 1 := IntWalk.i64_in _ (by omega)
              go_quiet (fail)
              clear hs0 hs1 hs2 hs3 hs4 hs5 hs6
              go_wp2_with fail
              · have hne : (!digits (val T) == T) = true := by assumption
                have hfd' := hfd.out.trans (if_neg (fun h => by rw [h.2] at hne; simp at hne))
                go_ret3
                rw [hfd']
                exact ⟨rfl, below_drawn hb1 _⟩
              · have hne : (!digits (val T) == T) = false := by assumption
                have hfd' := hfd.out.trans (if_pos ⟨hN, by simpa using hne⟩)
                go_ret3
                rw [hfd']
                exact ⟨rfl, below_drawn hb1 _⟩
            · have hput : putVar [] ((val T : Nat) : Int) = ([], false) := by rw [putVar, if_neg (by omega)]
              have hcon := specPutVar_any (A := none) (m := 0) (c := 0) (hi := 0) (bs := []) (w := w) ((val T : Nat) : Int) Seen.nil_ (Nat.zero_le _) (by omega)
              rw [hput] at hcon
              have hcon' := Lib.hid hcon
              clear hcon hput
              have hfd' := Lib.hid (hfd.out.trans (if_neg (fun h => hN h.1)))
              clear hfd
              go_wp2_with fail
              refine hcon'.out.mono ?_
              clear hcon'
              rintro e w1 ⟨A1, n1, c1, rfl, own1, hb1⟩
              go_wp2_with fail
              go_quiet (fail)
              go_wp2_with fail
              go_ret3
              rw [hfd'.out]
              exact ⟨rfl, below_drawn hb1 _⟩
    · have hfin := Lib.hid (getVar_none (p := q) (k := k) hlen.out hh (by omega))
      by_cases hkm' : q + k < m
      · have hk5' : k = 5 := by omega
        subst hk5'
        go_wp2_with fail
        go_ret3
        rw [hfin.out]
        exact ⟨rfl, Below.refl _ _⟩
      · have hkm'' : q + k = m := by omega
        subst hkm''
        go_wp2_with fail
        go_ret3
        rw [hfin.out]
        exact ⟨rfl, Below.refl _ _⟩
end Go.Proofs.Ytedildbhgcmenaa
