/- Wake of an engine: the law. -/
import Derived.Test.YtjcoapnggojpdaaGreatDoorWakeLawL
set_option maxHeartbeats 20000000
namespace Go.Proofs.YtjcoapnggojpdaaGreatDoor.fnExactWake
open Go.ChangeShapes Go.WideShapes Go.ChangeAt Go.RowKit
open Go.ChangeMaps (open_string shut_string)
set_option linter.unusedVariables false
set_option linter.unusedSimpArgs false
theorem facts:joinedFacts Tryz.pinned.checked.prog 3 Tryz.f3 Rows.fnExactWakeSpec Rows.fnExactWakeRow=true:=by
 unfold joinedFacts;simp only[zT];repeat' refine And.intro ?_ ?_
 all_goals (as_aux_lemma=>kernel_rfl)
theorem over:Rows.fnExactWakeRow.holds Tryz.pinned (OpenSpec.ofChange Rows.fnExactWakeSpec) :=
 OpenClaim.holds_of_wide 3 Tryz.f3 rfl rfl rfl rfl rfl rfl rfl ⟨rfl,rfl,rfl,rfl,rfl⟩ rfl rfl rfl rfl rfl (by kernel_rfl) Tryz.func3 facts
  (of_decide_eq_true (by kernel_rfl)) (by unfold Func.isWrapper;first|(rw[yG (by decide +kernel)];kernel_rfl)|(rw[yF (by decide +kernel)];exact⟨rfl,rfl⟩))
  (fun os started H enc _=>lifted os started H enc)
theorem proved:Rows.FnExactWakeCardSaid :=
 Claim7.holds_tied_plain_at .later [] [.data,.data] true (true,"7fc4a13f0a102f43bef252d868ef189bb0db11f96e3613f17c1137877ca2d25e") false
  over (fun _ h=>by cases h) (by kernel_rfl) (fun _ h=>by cases h) fnExactWake_row_tie rfl ⟨rfl,rfl⟩ (by kernel_rfl) rfl
  (fun f fn hf hfn=>by
   obtain rfl:f=3:=zW ((show Tryz.prog.funcNamed "loop.example/g00679/laws.FnExactWake" =some 3 by kernel_rfl).symm.trans hf) |>.symm
   obtain rfl:fn=Tryz.f3:=(zW (Tryz.func3.symm.trans hfn)).symm;exact⟨by kernel_rfl,fun j t ht=>by
    rw[Tryz.params3] at ht;rcases j with _|j
    ·have Kr:t=26:=by simpa using ht.symm
     subst Kr;exact (show Tryz.prog.wantsStandIn 26=false by kernel_rfl)
    rcases j with _|j
    ·have Kr:t=31:=by simpa using ht.symm
     subst Kr;exact (show Tryz.prog.wantsStandIn 31=false by kernel_rfl)
    rcases j with _|j
    ·have Kr:t=3:=by simpa using ht.symm
     subst Kr;exact (show Tryz.prog.wantsStandIn 3=false by kernel_rfl)
    rcases j with _|j
    ·have Kr:t=33:=by simpa using ht.symm
     subst Kr;exact (show Tryz.prog.wantsStandIn 33=false by kernel_rfl)
    rcases j with _|j
    ·have Kr:t=3:=by simpa using ht.symm
     subst Kr;exact (show Tryz.prog.wantsStandIn 3=false by kernel_rfl)
    rcases j with _|j
    ·have Kr:t=4:=by simpa using ht.symm
     subst Kr;exact (show Tryz.prog.wantsStandIn 4=false by kernel_rfl)
    simp at ht
   ⟩)
  (by kernel_rfl)
#print axioms proved
end Go.Proofs.YtjcoapnggojpdaaGreatDoor.fnExactWake
