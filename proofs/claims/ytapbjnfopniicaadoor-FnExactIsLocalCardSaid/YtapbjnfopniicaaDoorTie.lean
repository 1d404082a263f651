/-
  DERIVED. GIVEN WITH THE SEED: THE PROGRAM's TIES (one call each: nine closed facts by the kernel) AND EACH ROW's TIE, after the 31st guide's Derived/Test/Toyas{Tie, Card}.lean. No idea stands in it: it is a product of the set-up. Laid BY PROGRAM, IN A SANDBOX (cutbox-door.mjs). By AI agents, Wed Nov 11 2026. No macro, syntax, notation, axiom, sorry.
-/
import Derived.Test.YtapbjnfopniicaaDoorRows
import Derived.LaidByTextLater
import Derived.SevenTiedAt
import Derived.LaidSub
import Derived.LaidOnce
namespace Go.Proofs.YtapbjnfopniicaaDoor
open Go
set_option maxRecDepth 100000
theorem seatTie1 : Tryd.prog.laidByTextLater [("loop.example/g00679/impl.opRows", Rows.laid_loop_example_g00679_impl_opRows), ("loop.example/g00679/impl.itemRows", Rows.laid_loop_example_g00679_impl_itemRows)] [.data, .data] true :=
  Program.laidByTextLater_by_one 59 8 65 (by kernel_rfl) (by kernel_rfl) (by kernel_rfl) (by kernel_rfl) (by kernel_rfl) (by kernel_rfl) (fun _ _ => by kernel_rfl)
theorem noOwnUnsafe : Tryd.pinned.checked.prog.headLifts.contains "ownunsafe" = false := by kernel_rfl
theorem tie : Tryd.prog.laidByTextLater [("loop.example/g00679/impl.opRows", Rows.laid_loop_example_g00679_impl_opRows), ("loop.example/g00679/impl.itemRows", Rows.laid_loop_example_g00679_impl_itemRows)] [.data, .data] true :=
  Program.laidByTextLater.sub seatTie1 ["loop.example/g00679/impl.opRows", "loop.example/g00679/impl.itemRows"] (by kernel_rfl) (by kernel_rfl)
theorem fnExactIsLocal_row_tie : Rows.fnExactIsLocalRow.laidByTextAt .later Tryd.pinned [.data, .data] true :=
  OpenClaim.laidByTextAt_later rfl rfl tie noOwnUnsafe
theorem fnExactIsLocalUpto_row_tie : Rows.fnExactIsLocalUptoRow.laidByTextAt .later Tryd.pinned [.data, .data] true :=
  OpenClaim.laidByTextAt_later rfl rfl tie noOwnUnsafe
end Go.Proofs.YtapbjnfopniicaaDoor
