/- For every row of bytes FnFrames answers true: chunks are read as they were written; torn off, those that are all there; with a turned byte, those ahead of it. No condition. -/
import Derived.Test.YtbogonfamflpdaaRows
import Derived.WalkKit
import Derived.Test.YtbogonfamflpdaaFramesMath
import Derived.ProofKit
import Derived.OpenShut
import Derived.ShutString
import Derived.ChangeOld
import Derived.Below
namespace Go.Proofs.Ytbogonfamflpdaa.fnFrames
open Go.ChangeShapes Go.WideShapes Go.ChangeAt Go.RowKit
open Go.ChangeMaps (open_string shut_string)
set_option linter.unusedVariables false

theorem own : ownKnob Try.prog.godebug = none := by kernel_rfl
theorem laidOut : laidOutB Try.prog = true := by kernel_rfl

def IsRow (k : IntKind) (w : World) (a : Option Addr) (len cap : Nat) (zs : List Int) : Prop :=
  (a = none ∧ len = 0 ∧ cap = 0 ∧ zs = []) ∨
  ∃ x, a = some x ∧ len ≤ cap ∧ cap ≤ maxLen ∧ zs.length = cap ∧ (∀ i, i < zs.length → w.cell? (x.add i) = some (.int k (zs.getD i 0))) ∧ ∀ n ∈ zs, (Lit.int k n).wf = true

set_option maxHeartbeats 2000000 in
set_option maxRecDepth 100000 in
theorem walk (a0 : Option Addr) (len0 cap0 : Nat) (z0 : List Int) (w : World) (w0 : IsRow .u8 w a0 len0 cap0 z0) :
    Calls Try.prog 3 #[.slice a0 len0 cap0] w fun e w' => e = .returned (.bool true) ∧ Below w.heap.size w w' := by
  by_cases hbig : len0 ≤ 1048576
  · obtain ⟨bs, hs⟩ := seen_of_ints w0
    clear w0
    go_enter Try.func3, Try.ntmps3
    go_wp2_with fail
    refine (MakeChunks_any hs (Nat.le_refl _) (by omega)).mono ?_
    rintro e w1 ⟨A1, c1, ds, h5, h8, rfl, ch1, hb1⟩
    have z1 := hb1.size
    have hfit := fit_small h5 h8
    have hroom := room_small ds h8
    have HF := Lib.hid hfit
    have H8 := Lib.hid h8
    clear h8 hfit
    have hsb := Lib.hid (streamB_yes HF.out)
    have hwh := Lib.hid (scan_whole ds 0 HF.out)
    have hsl := Lib.hid (stream_length ds 0)
    go_wp2_with fail
    refine (implStream_any ch1.seen (Nat.le_refl _) (by omega)).mono ?_
    rw [hsb.out]
    rintro e w2 ⟨A2, n2, c2, rfl, own2, hb2⟩
    have z2 := hb2.size
    have hB2 := hb1.trans (hb2.mono z1)
    replace ch1 := ch1.below hb2 (Nat.le_refl _)
    obtain rfl : room ds = n2 := by have a := own2.len; rw [List.length_map, hsl.out] at a; exact a
    clear hb1 hb2
    go_wp2_with fail
    refine (implScan_any own2.seen (Nat.le_refl _) own2.cap (by omega)).mono ?_
    rw [hwh.out]
    rintro e w3 ⟨A3, c3, rfl, ch3, hb3⟩
    have z3 := hb3.size
    have hB3 := hB2.trans (hb3.mono (by omega))
    replace ch1 := ch1.below hb3 (by omega)
    replace own2 := own2.below hb3 (by omega)
    clear hB2 hb3
    go_wp2_with fail
    refine (implWhole_any own2.seen (by omega) own2.cap (by omega)).mono ?_
    rw [hwh.out]
    rintro e w4 ⟨rfl, hb4⟩
    have z4 := hb4.size
    have hB4 := hB3.trans (hb4.mono (by omega))
    replace ch1 := ch1.below hb4 (by omega)
    replace ch3 := ch3.below hb4 (by omega)
    replace own2 := own2.below hb4 (by omega)
    clear hB3 hb4
    go_wp2_with fail
    refine (MakeNum_any (N := room ds + 1) (hs.below hB4 (Nat.le_refl _)) (by omega) (by omega) (by omega)).mono ?_
    rintro e w5 ⟨k, hk, rfl, hb5⟩
    replace hk : k ≤ room ds := by omega
    have z5 := hb5.size
    have hB5 := hB4.trans (hb5.mono (by omega))
    replace ch1 := ch1.below hb5 (by omega)
    replace ch3 := ch3.below hb5 (by omega)
    replace own2 := own2.below hb5 (by omega)
    clear hB4 hb5
    have hcap := own2.cap
    have kk : ∀ W, (Instr.slice 22 (.slice A2 (room ds) c2) none (some (.int .i64 (k : Int))) none).run Try.prog W = .ok (.slice (cutA A2 0 c2) k c2) W := fun W => by
      have := run_cut_h Try.underlying22 u8_size W A2 (room ds) c2 (k : Int) (by omega) (by omega)
      rwa [Int.toNat_natCast] at this
    have scut : Seen w5 w5.heap.size 1 (cutA A2 0 c2) k (((stream 0 ds).take k).map B) := by
      have := (own2.seen.more (show w2.heap.size ≤ w5.heap.size by omega)).cut (l := 0) (m := k) (c := c2) (by omega) hcap
      simpa using this
    obtain ⟨j, st, htorn, hst2, hj, hRk, hst0, hends⟩ := scan_torn ds 0 k HF.out hk
    have HT := Lib.hid htorn
    have H0 := Lib.hid hst0
    have HEND := Lib.hid hends
    have HJ := Lib.hid (show (ds.take j).length = j by rw [List.length_take]; omega)
    clear htorn hst0 hends
    go_wp2_with fail
    refine (implScan_any scut (Nat.le_refl _) (by omega) (by omega)).mono ?_
    rw [HT.out]
    rintro e w6 ⟨A6, c6, rfl, _, hb6⟩
    have z6 := hb6.size
    have hB6 := hB5.trans (hb6.mono (by omega))
    replace ch1 := ch1.below hb6 (by omega)
    replace ch3 := ch3.below hb6 (by omega)
    replace own2 := own2.below hb6 (by omega)
    clear hB5 hb6 kk scut
    rw [show (ds.take j, room (ds.take j), st).1.length = j from HJ.out]
    have hst : ((st : Int) == 2) = false := by rw [beq_eq_false_iff_ne]; omega
    have hsame : ((st : Int) == 0) = ((room (ds.take j) : Int) == (k : Int)) := by
      by_cases h : room (ds.take j) = k
      · have := H0.out.2 h
        rw [h, this]; simp
      · have h' : st ≠ 0 := fun e => h (H0.out.1 e)
        rw [show ((st : Int) == 0) = false by rw [beq_eq_false_iff_ne]; omega, show ((room (ds.take j) : Int) == (k : Int)) = false by rw [beq_eq_false_iff_ne]; omega]
    have hgt : decide (k < room (ds.take j)) = false := by simp; omega
    generalize room (ds.take j) = R at *
    go_wp2_with fail
    clear hst hsame hgt hst2 hRk
    obtain ⟨i0, hi0, hz0, hz1, hz2⟩ := info_parts u8_info
    have HLEN := Lib.hid hcap
    go_loopw [13, 14, 15, 16, 17, 18, 19, 20, 21, 92] (fun pos _ _ _ _ _ _ _ _ ix wr => ∃ q : Nat, q ≤ ds.length ∧ ix = .int .i64 (q : Int) ∧ pos = .int .i64 ((room (ds.take q) : Nat) : Int) ∧ Below w6.heap.size w6 wr) (fun _ _ _ _ _ _ _ _ _ ix _ => ds.length - (intOf ix).toNat)
    case atStart => exact ⟨0, Nat.zero_le _, rfl, rfl, Below.refl _ _⟩
    case round =>
      obtain ⟨q, hq, rfl, rfl, hbr⟩ := hrel
      have zr := hbr.size
      by_cases hlt : q < ds.length
      · have hd := Lib.hid (List.getElem?_eq_getElem hlt)
        have hdm := Lib.hid (List.getElem_mem hlt)
        have hsn := Lib.hid (take_snoc_get hd.out)
        have hbent := Lib.hid (scan_bent ds 0 q)
        have hendq := Lib.hid (HEND.out q hlt)
        obtain ⟨_, vs, hrow, hel⟩ := (ch1.below hbr (by omega)).seen
        obtain ⟨_, vs', hrow', hel'⟩ := (ch3.below hbr (by omega)).seen
        obtain ⟨Ai, ni, ci, e1, _, s1⟩ := hel q _ hd.out
        obtain ⟨Aj, nj, cj, e2, _, s2⟩ := hel' q _ hd.out
        have hl1 : (ds[q]).length = ni := by have b := s1.len; simpa using b
        obtain rfl : ni = nj := by have b := s2.len; rw [List.length_map] at b; omega
        have hni : ni ≤ 8 := by have b := H8.out _ hdm.out; omega
        have HL1 := Lib.hid hl1
        clear hl1
        obtain ⟨g1, o1, u1, rfl, hg1, hu1, hc1⟩ := hrow.at_ (j := q) (by omega)
        obtain ⟨g3, o3, u3, rfl, hg3, hu3, hc3⟩ := hrow'.at_ (j := q) (by omega)
        rw [e1] at hu1
        rw [e2] at hu3
        injection hu1 with hu1
        injection hu3 with hu3
        subst hu1 hu3
        clear e1 e2 hel hel' hrow hrow'
        have hrm : room (ds.take q) ≤ room ds := room_take_le ds q
        have hrm2 : room (ds.take q) + (15 + ni) ≤ room ds := by
          have := room_take_le ds (q + 1)
          rw [hsn.out, room_snoc, HL1.out] at this
          exact this
        have HQ := Lib.hid (show room (ds.take (q + 1)) = room (ds.take q) + (15 + ni) by rw [hsn.out, room_snoc, HL1.out])
        generalize hP : room (ds.take q) = P at *
        have HP := Lib.hid hP
        clear hP
        -- the chunk's own variable
        have hbA : Below w6.heap.size w6 (wr.alloc (.cells #[.slice Ai ni ci] 32)) := hbr.alloc zr _
        have t1 := s1.below ((Below.refl wr.heap.size wr).alloc (Nat.le_refl _) (.cells #[.slice Ai ni ci] 32)) (by omega)
        have t2 := s2.below ((Below.refl wr.heap.size wr).alloc (Nat.le_refl _) (.cells #[.slice Ai ni ci] 32)) (by omega)
        have cv1 := fun nq => conv_seen (c := ci) t1 nq
        have cv2 := fun nq => conv_seen (c := cj) t2 nq
        have hc3' : (wr.alloc (.cells #[.slice Ai ni ci] 32)).cell? ⟨g3, o3 + q, none⟩ = some (.slice Aj ni cj) := (((Below.refl wr.heap.size wr).alloc (Nat.le_refl _) (.cells #[.slice Ai ni ci] 32)).cell (p := ⟨g3, o3 + q, none⟩) (show g3 < wr.heap.size by omega)).trans hc3
        generalize ds[q] = d at *
        have hx0 : (0 : Int) ≤ (q : Int) := by omega
        have hx1 : (q : Int) < (ds.length : Int) := by omega
        have v15 : IntKind.i64.wrap ((P : Int) + 15) = (P : Int) + 15 := IntWalk.i64_in _ (by omega)
        have hcmp : decide ((P : Int) + 15 + (ni : Int) ≤ (k : Int)) = decide (q < j) := by
          have := hendq.out
          rw [HQ.out] at this
          by_cases h : q < j
          · have := this.2 h
            rw [decide_eq_true h, decide_eq_true (by omega)]
          · have h' : ¬ (P + (15 + ni) ≤ k) := fun e => h (this.1 e)
            rw [decide_eq_false h, decide_eq_false (by omega)]
        go_wp2_with fail
        have HM := Lib.hid (fun nq : Nat => show Own ((((wr.alloc (.cells #[.slice Ai ni ci] 32)).drewN nq)).alloc (.cells #[] 5)) w6.heap.size (wr.heap.size + 2) 5 1 (some ⟨wr.heap.size + 1, 0, none⟩) 0 0 [] from by
          have a := Own.made (size := 1) (e := 5) ((wr.alloc (.cells #[.slice Ai ni ci] 32)).drewN nq) #[] 0 0 (by simp only [maxLen]; omega) (by simp) (Nat.zero_le _)
          have e1 : ((wr.alloc (.cells #[.slice Ai ni ci] 32)).drewN nq).heap.size = wr.heap.size + 1 := World.size_alloc wr _
          rw [e1] at a
          exact a.wider (by omega) (Nat.le_refl _))
        have HS2 := Lib.hid (fun nq : Nat => own2.seen.below (((below_drawn hbA nq)).alloc (show w6.heap.size ≤ ((wr.alloc (.cells #[.slice Ai ni ci] 32)).drewN nq).heap.size by rw [show ((wr.alloc (.cells #[.slice Ai ni ci] 32)).drewN nq).heap.size = wr.heap.size + 1 from World.size_alloc wr _]; omega) (.cells #[] 5)) (by omega))
        go_quiet (fail)
        clear cv1 cv2 t1 t2 hcmp hc1 hc3 hc3'
        go_wp2_with (at_builtin; refine wpList_append_seen rfl (.tmp 123) (.tmp 124) _ rfl w6.heap.size _ 5 i0 _ 1 1 Try.underlying22 hi0 hz0 hz1 hz2 rfl (by omega) _ 0 0 [] rfl (HM.out _) _ A2 (room ds) c2 _ rfl (HS2.out _) (oneCell_B _) (by simp only [maxLen]; omega) (by omega) (by simp; omega) ?_; intro A7 c7 w7 own7 hb7')
        rw [Nat.zero_add, List.nil_append] at own7
        have hb7 : Below w6.heap.size w6 w7 := ((below_drawn hbA _).alloc (by show w6.heap.size ≤ (wr.alloc _).heap.size; rw [World.size_alloc]; omega) _).trans hb7'
        clear hb7' HM HS2 v15
        have z7 := hb7.size
        have hB7 := hB6.trans (hb7.mono (by omega))
        rw [show ((P : Int) + 15 + (ni : Int) - (P : Int)) = ((15 + ni : Nat) : Int) by omega]
        refine (MakeNum_any (N := 15 + ni) (hs.below hB7 (Nat.le_refl _)) (by omega) (by omega) (by omega)).mono ?_
        rintro e w8 ⟨x, hx, rfl, hb8⟩
        replace hx : x < 15 + ni := by omega
        have z8 := hb8.size
        have hB8 := hB7.trans (hb8.mono (by omega))
        have hb68 := hb7.trans (hb8.mono z7)
        have own8 := own7.below hb8 (Nat.le_refl _)
        clear own7 hb7 hB7 hb8
        obtain ⟨g7, rfl, hg7a, hg7b, hg7c⟩ := own8.form (by omega)
        have hpx : P + x < (stream 0 ds).length := by rw [hsl.out]; omega
        have hb0 := Lib.hid (List.getElem?_eq_getElem hpx)
        have hcell : w8.cell? ⟨g7, P + x, none⟩ = some (B (stream 0 ds)[P + x]) := own8.cell (by rw [List.getElem?_map, hb0.out]; rfl)
        have hfz := own8.free (P + x)
        generalize (stream 0 ds)[P + x] = b0 at *
        have i1 : (0 : Int) ≤ (P : Int) + (x : Int) := by omega
        have i2 : (P : Int) + (x : Int) < (room ds : Int) := by omega
        have i3 : ((P : Int) + (x : Int)).toNat = P + x := by omega
        have HN := Lib.hid (fun (W : World) (hW : Below w8.heap.size w8 W) => MakeNum_any (c := cap0) (N := 255) (hs.below (hB8.trans (hW.mono (by omega))) (Nat.le_refl _)) (by have := hW.size; omega) (by omega) (by omega))
        have hb80 : Below w8.heap.size w8 w8.drew := (Below.refl _ _).drew
        go_wp2_with fail
        go_region_with (go_at_call 13; refine (HN.out _ hb80).mono ?_; rintro e w9 ⟨m, hm, rfl, hb9⟩; have hm255 : m < 255 := (by omega); have hc9 : w9.cell? ⟨g7, P + x, none⟩ = some (B b0) := (hb9.cell (p := ⟨g7, P + x, none⟩) hg7c).trans hcell; have hf9 : w9.frozen? ⟨g7, P + x, none⟩ = false := (hb9.frozen (p := ⟨g7, P + x, none⟩) hg7c).trans hfz)
        all_goals
          obtain ⟨y, hy1, hy2⟩ := xor_turn b0 hm255
          have hb9' : Below w8.heap.size w8 w9 := hb80.trans hb9
          have own9 := (own8.below hb9' (by omega)).set_ (P + x) (B y)
          rw [← List.map_set] at own9
          have z9 := hb9'.size
          have hbb : Below w6.heap.size w6 (w9.setCell ⟨g7, P + x, none⟩ (B y)) := (hb68.trans (hb9'.mono (by omega))).setCell (by simp; omega) _
          have zz : (w9.setCell ⟨g7, P + x, none⟩ (B y)).heap.size = w9.heap.size := by simp [World.setCell]
          have hsc := Lib.hid (show scanR ((stream 0 ds).set (P + x) y) 0 = (ds.take q, P, 2) from by
            have := hbent.out x y HF.out hlt (by rw [(List.getElem?_eq_some_iff.1 hd.out).2, HL1.out]; exact hx) (by rw [hb0.out]; exact fun e => hy2 (Option.some.inj e).symm)
            exact this)
          have hw1 : IntKind.i64.wrap (1 + (m : Int)) = 1 + (m : Int) := IntWalk.i64_in _ (by omega)
          have hw2 : IntKind.u8.wrap (1 + (m : Int)) = 1 + (m : Int) := by simp [IntKind.wrap, IntKind.bits, IntKind.signed]; omega
          rw [hw1, hw2, hy1]
          clear hw1 hw2
          clear hy1 hy2 hc9 hf9 hcell hfz hb9 HN i1 i2 i3 hm
          generalize w9.setCell ⟨g7, P + x, none⟩ (B y) = w10 at *
          have HZ := Lib.hid zz
          have hz10 : w8.heap.size ≤ w10.heap.size := by omega
          clear zz
          go_wp2_with fail
          refine (implScan_any (own9.seen.more (show w7.heap.size ≤ w10.heap.size by omega)) (Nat.le_refl _) own9.cap (by omega)).mono ?_
          rw [hsc.out]
          rintro e w11 ⟨A11, c11, rfl, _, hb11⟩
          rw [show (ds.take q, P, 2).1.length = q from by rw [List.length_take]; omega]
          have hbn : Below w6.heap.size w6 w11 := hbb.trans (hb11.mono hbb.size)
          clear hb11 hbb own9
          go_wp2_with fail
          go_roundw
          case rel =>
            first
              | exact ⟨q + 1, by omega, by go_num, by rw [HQ.out]; go_num, hbn⟩
              | ((repeat apply Exists.intro); refine ⟨?_, rfl⟩; exact ⟨q + 1, by omega, by go_num, by rw [HQ.out]; go_num, hbn⟩)
          case measure => simp [intOf]; omega
      · go_wp2_with fail
        go_ret
        exact ⟨rfl, hB6.trans (hbr.mono (by omega))⟩
  · clear w0
    go_enter Try.func3, Try.ntmps3
    go_wp2
    go_ret
    exact ⟨rfl, Below.refl _ _⟩

set_option maxRecDepth 100000 in
theorem lifted (os : Os) (started : os.Started) (H : Type) (enc : TypeId × Value → H) :
    ReturnsInHanded {} Try.checked os 3 .any (Rows.fnFramesSpec.pre6 enc Try.prog Try.f3 Rows.fnFramesRow.domain false) (Rows.fnFramesSpec.post enc Try.prog Try.f3 false true false false) := by
  refine returnsInHanded_of_change (C := Try.checked) own started (by kernel_rfl) Try.func3
    (ChangeSpec.witness6 (enc := enc) (C := Try.checked) false ⟨#[], #[.slice none 0 0], []⟩ 8 (by kernel_rfl) (by kernel_rfl) (by kernel_rfl) (by kernel_rfl)) ?_
  intro W base args ds gs before hval0 hW hcnd _
  have hval : ∀ (j : Nat) t v, Try.f3.params[j]? = some t → args[j]? = some v → Value.okWide Try.prog W .any base t v := hval0
  have hW' := hW
  obtain ⟨p, q, hA0, hV, rfl, hfz, hnd⟩ := hW
  have hA : DataW.TrodAll enc Try.prog W 0 (fun _ => true) true Try.f3.params.toList args.toList ds p := hA0
  rw [Try.params3] at hA hval
  obtain ⟨v0, vs0, d0, ds0, p0, q0, hargs, rfl, rfl, h0, r0⟩ := trodAll_cons hA
  obtain ⟨rfl, rfl, rfl⟩ := trodAll_nil r0
  obtain rfl : args = #[v0] := by cases args; simp_all
  obtain ⟨rfl, rfl⟩ := trodVars_none hV
  obtain ⟨a0, len0, cap0, rfl⟩ := okWide_slice Try.underlying22 (hval 0 22 v0 rfl rfl)
  have k0 := h0
  have lt0 : ∀ x ∈ p0, x.block < W.heap.size := by obtain ⟨m, hm⟩ := k0; exact DataW.trod_lt m _ _ _ hm
  obtain ⟨z0, w0⟩ : ∃ zs, IsRow .u8 W a0 len0 cap0 zs := by
    obtain ⟨fuel, hf⟩ := h0
    rcases open_ints Try.underlying22 Try.underlying5 (by kernel_rfl) hf with ⟨hcs, _⟩ | ⟨x, l, c, zs, hcs, _, hl, hm, hz, _, hcell, hwz⟩
    · simp [Value.cells] at hcs
      obtain ⟨rfl, rfl, rfl⟩ := hcs
      exact ⟨[], .inl ⟨rfl, rfl, rfl, rfl⟩⟩
    · simp [Value.cells] at hcs
      obtain ⟨rfl, rfl, rfl⟩ := hcs
      exact ⟨zs, .inr ⟨_, rfl, hl, hm, by simpa using hz, hcell, hwz⟩⟩
  clear hA0 hval0
  refine (walk a0 len0 cap0 z0 W w0).mono fun e W' ⟨he, bel⟩ => ?_
  subst he
  exact ⟨_, rfl, _, _, _, [], _, [], hW', trodAll_mk1 (shut_bool Try.underlying4 _), (trodAll_cons_mk (Below.trod laidOut (by kernel_rfl) (of_decide_eq_true (by kernel_rfl)) k0 bel lt0) trodAll_mk0), rfl, bel.frame _, fun h => by cases h⟩

theorem over : Rows.fnFramesRow.holds Try.pinned (OpenSpec.ofChange Rows.fnFramesSpec) :=
  OpenClaim.holds_of_wide 3 Try.f3 rfl rfl rfl rfl rfl rfl rfl ⟨rfl, rfl, rfl, rfl, rfl⟩ rfl rfl rfl rfl rfl (by kernel_rfl) Try.func3 (by kernel_rfl)
    (of_decide_eq_true (by kernel_rfl)) (by unfold Func.isWrapper; first | (rw [if_pos (by decide +kernel)]; kernel_rfl) | (rw [if_neg (by decide +kernel)]; exact ⟨rfl, rfl⟩))
    (fun os started H enc _ => lifted os started H enc)

theorem proved : Rows.FnFramesSaid := over
#print axioms proved
end Go.Proofs.Ytbogonfamflpdaa.fnFrames
