/- Contracts of the program's FrameRead: the reader of data, the deferred closure, and the whole. -/
import Derived.Test.YtbogonfamflpdaaFrameRead
import Derived.Test.YtbogonfamflpdaaByteS
namespace Go.Proofs.Ytbogonfamflpdaa
open Go.RowKit

theorem codeOf_any (k : Int) (w : World) : Calls Try.prog 40 #[.iface 50 (.int .i64 k)] w fun e w' => e = .returned (.int .i64 k) ∧ w = w' := by
  have hta : ∀ W : World, (Instr.typeAssert (.iface 50 (.int .i64 k)) 20 50 true).run Try.prog W = .ok (.tuple #[.int .i64 k, .bool true]) W := fun _ => by kernel_rfl
  go_enter Try.func40, Try.ntmps40
  go_wp2
  go_ret
  exact ⟨rfl, rfl⟩

theorem catch_fault (p : Addr) (x k : Int) (w : World) (hc : w.cell? p = some (.int .i64 x)) (hz : w.frozen? p = false) :
    CallsD Try.prog 39 #[.pointer (some p)] (.panicking [{ v := .iface 50 (.int .i64 k), recovered := false }]) w fun e u' w' =>
      e = .returned (.tuple #[]) ∧ u' = .panicking [{ v := .iface 50 (.int .i64 k), recovered := true }] ∧ w' = w.setCell p (.int .i64 k) := by
  refine callsD_of_wpS Try.func39 rfl fun c₀ cs hu => ?_
  apply wpS_seq
  apply wpS_region
  simp [wpOpsS, go_sem, recoverD, hu, Try.ntmps39, Exit.thenS]
  refine wpS_of_wp ?_
  have ht : (#[Value.pointer (some p)] ++ ((Array.replicate 6 undef).setIfInBounds 1 (Value.iface 50 (Value.int IntKind.i64 k))).setIfInBounds 0 (Value.iface 50 (Value.int IntKind.i64 k))) = #[.pointer (some p), .iface 50 (.int .i64 k), .iface 50 (.int .i64 k), undef, undef, undef, undef] := by rfl
  rw [ht]
  clear ht
  go_wp2_with fail
  refine (codeOf_any k _).mono ?_
  rintro e w' ⟨rfl, rfl⟩
  go_wp2_with fail
  cases c₀
  simp_all [bodyPostS, results, Try.results39]

theorem catch_idle (p : Addr) (w : World) :
    CallsD Try.prog 39 #[.pointer (some p)] .returning w fun e u' w' => e = .returned (.tuple #[]) ∧ u' = .returning ∧ w' = w := by
  refine callsD_of_wpS Try.func39 rfl fun c₀ cs hu => ?_
  apply wpS_seq
  apply wpS_region
  simp [wpOpsS, go_sem, recoverD, hu, Try.ntmps39, Exit.thenS]
  refine wpS_of_wp ?_
  have ht : (#[Value.pointer (some p)] ++ ((Array.replicate 6 undef).setIfInBounds 1 Value.nilIface).setIfInBounds 0 Value.nilIface) = #[.pointer (some p), .nilIface, .nilIface, undef, undef, undef, undef] := by rfl
  rw [ht]
  clear ht
  go_wp2_with fail
  cases c₀
  simp_all [bodyPostS, results, Try.results39]

section
variable {A : Option Addr} {n c hi s : Nat} {r : List UInt8} {w : World}
theorem readData_short (hn : n < 15 + s) (hs : s ≤ 4000) :
    Calls Try.prog 43 #[.slice A n c, .int .i64 (s : Int)] w fun e w' => e = Fault 4 ∧ w = w' := by
  go_enter Try.func43, Try.ntmps43
  go_wp2_with fail
  refine (giveUp_yes (by simp; omega) 4 _).mono ?_
  rintro e w' ⟨rfl, rfl⟩
  go_wp2_with fail
  exact ⟨rfl, rfl, rfl⟩

/-- How readData ends where all is there. -/
def DataPost (w : World) (r : List UInt8) (s : Nat) (e : Ending) (w' : World) : Prop :=
  (num (part r 11 4) ≠ crc (part r 15 s) ∧ e = Fault 5 ∧ Below w.heap.size w w') ∨
  (num (part r 11 4) = crc (part r 15 s) ∧ MadeB w (part r 15 s) s e w')

set_option maxRecDepth 100000 in
set_option maxHeartbeats 400000 in
theorem readData_any (h : Seen w hi 1 A n (r.map B)) (hhi : hi ≤ w.heap.size) (hc : n ≤ c) (hn : 15 + s ≤ n) (hs : s ≤ 4000) :
    Calls Try.prog 43 #[.slice A n c, .int .i64 (s : Int)] w (DataPost w r s) := by
  obtain ⟨i0, hi0, hz0, hz1, hz2⟩ := info_parts u8_info
  have s11 : Seen w hi 1 (cutA A 11 c) 4 ((part r 11 4).map B) := by simpa [part] using h.cut (l := 11) (m := 4) (by omega) hc
  have s15 : Seen w hi 1 (cutA A 15 c) s ((part r 15 s).map B) := by simpa [part] using h.cut (l := 15) (m := s) (by omega) hc
  have k11 : ∀ W, (Instr.slice 22 (.slice A n c) (some (.int .i64 11)) (some (.int .i64 15)) none).run Try.prog W = .ok (.slice (cutA A 11 c) 4 (c - 11)) W := fun W => run_cut_lh Try.underlying22 u8_size W A n c 11 15 (by omega) (by omega) (by omega)
  have k15 : ∀ W, (Instr.slice 22 (.slice A n c) (some (.int .i64 15)) (some (.int .i64 (15 + (s : Int)))) none).run Try.prog W = .ok (.slice (cutA A 15 c) s (c - 15)) W := fun W => by
    have := run_cut_lh Try.underlying22 u8_size W A n c 15 (15 + (s : Int)) (by omega) (by omega) (by omega)
    rw [show ((15 : Int) + (s : Int)).toNat - (15 : Int).toNat = s by omega] at this
    exact this
  clear h
  go_enter Try.func43, Try.ntmps43
  go_wp2_with fail
  refine (giveUp_no (by simp; omega) 4 _).mono ?_
  rintro e w' ⟨rfl, rfl⟩
  go_wp2_with fail
  refine (getHigh_any s11 (by omega)).mono ?_
  rintro e w' ⟨rfl, rfl⟩
  go_wp2_with fail
  refine (implCrc_any s15 hhi (by omega)).mono ?_
  rintro e w1 ⟨rfl, hb1⟩
  have z1 := hb1.size
  replace s15 := s15.below hb1 hhi
  clear k11 k15 s11
  by_cases he : num (part r 11 4) = crc (part r 15 s)
  · have HE := Lib.hid he
    clear he
    go_wp2_with fail
    refine (giveUp_no (bne_same HE.out) 5 _).mono ?_
    rintro e w' ⟨rfl, rfl⟩
    go_wp2_with (at_builtin; refine wpList_append_seen rfl (.const (.slice none 0 0)) (.tmp 23) _ rfl w.heap.size w.heap.size 5 i0 _ 1 1 Try.underlying22 hi0 hz0 hz1 hz2 rfl (by omega) none 0 0 [] rfl (Own.nil_ _ _ _ _ _) hi _ s (c - 15) _ rfl s15 (oneCell_B _) (by simp only [maxLen]; omega) (by omega) (by omega) ?_; intro A2 c2 w2 own2 hb2)
    go_ret
    rw [Nat.zero_add, List.nil_append] at own2
    exact .inr ⟨HE.out, A2, c2, rfl, own2, hb1.trans hb2⟩
  · have HE := Lib.hid he
    clear he
    go_wp2_with fail
    refine (giveUp_yes (bne_cast HE.out) 5 _).mono ?_
    rintro e w' ⟨rfl, rfl⟩
    go_wp2_with fail
    exact ⟨rfl, .inl ⟨HE.out, rfl, hb1⟩⟩
end
end Go.Proofs.Ytbogonfamflpdaa
