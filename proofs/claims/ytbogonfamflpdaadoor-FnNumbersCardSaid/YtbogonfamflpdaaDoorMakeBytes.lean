/- The contract of the model's MakeBytes: some bytes, at most 40. -/
import Derived.Test.YtbogonfamflpdaaDoorDraw
namespace Go.Proofs.YtbogonfamflpdaaDoor
open Go.RowKit

theorem MakeBytes_any {A : Option Addr} {n c hi : Nat} {bs : List UInt8} {w : World} (hs : Seen w hi 1 A n (bs.map B)) (hhi : hi ≤ w.heap.size) (hn : n ≤ 16777216) :
    Calls Tryd.prog 6 #[.slice A n c] w fun e w' => ∃ A1 m c1, ∃ ds : List UInt8, m ≤ 40 ∧ e = .returned (.slice A1 m c1) ∧ Own w' w.heap.size w'.heap.size 5 1 A1 m c1 (ds.map B) ∧ Below w.heap.size w w' := by
  go_enter Tryd.func6, Tryd.ntmps6
  go_wp2_with fail
  refine (l01New_any hs hn).mono ?_
  rintro e w1 ⟨rfl, hc1, hb1, z1⟩
  have Z1 := Lib.hid z1
  clear z1
  go_wp2_with fail
  refine (l01Bytes_any (most := 40) (hs.below hb1 hhi) hhi hn (by omega) hc1).mono ?_
  rintro e w2 ⟨A2, m, c2, ds, hm, rfl, own2, hc2, ht2⟩
  go_wp2_with fail
  go_ret
  exact ⟨A2, m, c2, ds, hm, rfl, own2.wider hb1.size (Nat.le_refl _), hb1.trans (ht2.below (Nat.le_refl _) hb1.size)⟩
end Go.Proofs.YtbogonfamflpdaaDoor
