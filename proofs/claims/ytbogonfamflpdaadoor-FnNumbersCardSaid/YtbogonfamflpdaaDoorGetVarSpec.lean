
/- The contract of the model's GetVar, which reads digits and writes them again. -/

import Derived.Test.YtbogonfamflpdaaDoorGetVar

namespace Go.Proofs.YtbogonfamflpdaaDoor

open Go.RowKit

theorem getVar_spec {bs : List UInt8} {m p k : Nat} {x : UInt8} (hl : bs.length = m) (hp : p < m) (hk : k < 5) (hh : High (bs.drop p) k) (hx : (bs.drop p)[k]? = some x) (hlt : x.toNat < 128) :
    getVar bs (p : Int) = if val ((bs.drop p).take (k + 1)) ≤ 4294967295 ∧ digits (val ((bs.drop p).take (k + 1))) = (bs.drop p).take (k + 1) then ((val ((bs.drop p).take (k + 1)) : Int), (p : Int) + k + 1, true) else (0, 0, false) := by
  rw [getVar_found hl hp hk hh hx hlt]
  have hkl : k < (bs.drop p).length := (List.getElem?_eq_some_iff.1 hx).1
  have hx' : (bs.drop p)[k] = x := (List.getElem?_eq_some_iff.1 hx).2
  have hlen : ((bs.drop p).take (k + 1)).length = k + 1 := by rw [List.length_take]; omega
  have hlast : ((bs.drop p).take (k + 1)).getLast? = some x := by
    rw [List.take_succ_eq_append_getElem hkl, hx']; simp
  have hiff : ¬ (x = 0 ∧ 0 < k) ↔ digits (val ((bs.drop p).take (k + 1))) = (bs.drop p).take (k + 1) := by
    constructor
    · intro hn
      apply digits_val
      · intro e; rw [e] at hlen; simp at hlen
      · intro i d hi he
        rw [hlen] at hi
        refine hh i d (by omega) ?_
        rw [List.getElem?_take, if_pos (by omega)] at he
        exact he
      · intro d hd
        rw [hlast] at hd
        injection hd with hd
        subst hd
        refine ⟨hlt, ?_⟩
        rw [hlen]
        by_cases h0 : x = 0
        · left; have : ¬ 0 < k := fun h => hn ⟨h0, h⟩; omega
        · exact .inr h0
    · rintro e ⟨h0, hk0⟩
      have := digits_last (val ((bs.drop p).take (k + 1)))
      rw [e, hlen, hlast, h0] at this
      rcases this with h | h
      · omega
      · exact h rfl
  simp only [hiff]

theorem val_back {T : List UInt8} {s : Nat} {x : UInt8} (hx : T[s]? = some x) : val (T.drop s) = val (T.drop (s + 1)) * 128 + x.toNat % 128 := by
  have hs : s < T.length := (List.getElem?_eq_some_iff.1 hx).1
  have hx' : T[s] = x := (List.getElem?_eq_some_iff.1 hx).2
  rw [List.drop_eq_getElem_cons hs, val, hx']
  omega

theorem val_bound (T : List UInt8) (h : T.length ≤ 5) : val T < 34359738368 := by
  have h1 := val_lt T
  have h2 : 128 ^ T.length ≤ 128 ^ 5 := Nat.pow_le_pow_right (by omega) h
  omega

end Go.Proofs.YtbogonfamflpdaaDoor
