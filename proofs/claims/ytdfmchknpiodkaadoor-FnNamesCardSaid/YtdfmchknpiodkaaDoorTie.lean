/-
  DERIVED. GIVEN WITH THE SEED: THE PROGRAM's TIES (one call each: nine closed facts by the kernel) AND EACH ROW's TIE, after the 31st guide's Derived/Test/Toyas{Tie, Card}.lean. No idea stands in it: it is a product of the set-up. Laid BY PROGRAM, IN A SANDBOX (cutbox-door.mjs). By AI agents, Wed Nov 11 2026. No macro, syntax, notation, axiom, sorry.
-/
import Derived.Test.YtdfmchknpiodkaaDoorRows
import Derived.LaidByTextLater
import Derived.SevenTiedAt
import Derived.LaidSub
import Derived.LaidOnce
namespace Go.Proofs.YtdfmchknpiodkaaDoor
open Go
set_option maxRecDepth 100000
theorem seatTie1 : Tryd.prog.laidByTextLater [("loop.example/g00664/impl.opNames", Rows.laid_loop_example_g00664_impl_opNames), ("loop.example/g00664/impl.condNames", Rows.laid_loop_example_g00664_impl_condNames), ("loop.example/g00664/impl.byteNames", Rows.laid_loop_example_g00664_impl_byteNames), ("loop.example/g00664/impl.wordNames", Rows.laid_loop_example_g00664_impl_wordNames), ("loop.example/g00664/impl.dwordNames", Rows.laid_loop_example_g00664_impl_dwordNames), ("loop.example/g00664/impl.qwordNames", Rows.laid_loop_example_g00664_impl_qwordNames), ("loop.example/g00664/impl.groupOps", Rows.laid_loop_example_g00664_impl_groupOps), ("loop.example/g00664/impl.arithShapes", Rows.laid_loop_example_g00664_impl_arithShapes)] [.data, .data, .data, .data, .data, .data, .data, .data] true :=
  Program.laidByTextLater_by_one 62 8 57 (by kernel_rfl) (by kernel_rfl) (by kernel_rfl) (by kernel_rfl) (by kernel_rfl) (by kernel_rfl) (fun _ _ => by kernel_rfl)
theorem noOwnUnsafe : Tryd.pinned.checked.prog.headLifts.contains "ownunsafe" = false := by kernel_rfl
theorem tie : Tryd.prog.laidByTextLater [("loop.example/g00664/impl.opNames", Rows.laid_loop_example_g00664_impl_opNames), ("loop.example/g00664/impl.condNames", Rows.laid_loop_example_g00664_impl_condNames), ("loop.example/g00664/impl.byteNames", Rows.laid_loop_example_g00664_impl_byteNames), ("loop.example/g00664/impl.wordNames", Rows.laid_loop_example_g00664_impl_wordNames), ("loop.example/g00664/impl.dwordNames", Rows.laid_loop_example_g00664_impl_dwordNames), ("loop.example/g00664/impl.qwordNames", Rows.laid_loop_example_g00664_impl_qwordNames), ("loop.example/g00664/impl.groupOps", Rows.laid_loop_example_g00664_impl_groupOps), ("loop.example/g00664/impl.arithShapes", Rows.laid_loop_example_g00664_impl_arithShapes)] [.data, .data, .data, .data, .data, .data, .data, .data] true :=
  Program.laidByTextLater.sub seatTie1 ["loop.example/g00664/impl.opNames", "loop.example/g00664/impl.condNames", "loop.example/g00664/impl.byteNames", "loop.example/g00664/impl.wordNames", "loop.example/g00664/impl.dwordNames", "loop.example/g00664/impl.qwordNames", "loop.example/g00664/impl.groupOps", "loop.example/g00664/impl.arithShapes"] (by kernel_rfl) (by kernel_rfl)
theorem fnNames_row_tie : Rows.fnNamesRow.laidByTextAt .later Tryd.pinned [.data, .data, .data, .data, .data, .data, .data, .data] true :=
  OpenClaim.laidByTextAt_later rfl rfl tie noOwnUnsafe
theorem tie2 : Tryd.prog.laidByTextLater [("loop.example/g00664/impl.arithShapes", Rows.laid_loop_example_g00664_impl_arithShapes)] [.data] true :=
  Program.laidByTextLater.sub seatTie1 ["loop.example/g00664/impl.arithShapes"] (by kernel_rfl) (by kernel_rfl)
theorem fnExactShapeOf_row_tie : Rows.fnExactShapeOfRow.laidByTextAt .later Tryd.pinned [.data] true :=
  OpenClaim.laidByTextAt_later rfl rfl tie2 noOwnUnsafe
theorem tie3 : Tryd.prog.laidByTextLater [("loop.example/g00664/impl.groupOps", Rows.laid_loop_example_g00664_impl_groupOps)] [.data] true :=
  Program.laidByTextLater.sub seatTie1 ["loop.example/g00664/impl.groupOps"] (by kernel_rfl) (by kernel_rfl)
theorem fnExactGroupOp_row_tie : Rows.fnExactGroupOpRow.laidByTextAt .later Tryd.pinned [.data] true :=
  OpenClaim.laidByTextAt_later rfl rfl tie3 noOwnUnsafe
theorem tie4 : Tryd.prog.laidByTextLater [("loop.example/g00664/impl.opNames", Rows.laid_loop_example_g00664_impl_opNames)] [.data] true :=
  Program.laidByTextLater.sub seatTie1 ["loop.example/g00664/impl.opNames"] (by kernel_rfl) (by kernel_rfl)
theorem fnExactOpName_row_tie : Rows.fnExactOpNameRow.laidByTextAt .later Tryd.pinned [.data] true :=
  OpenClaim.laidByTextAt_later rfl rfl tie4 noOwnUnsafe
theorem fnExactOpOf_row_tie : Rows.fnExactOpOfRow.laidByTextAt .later Tryd.pinned [.data] true :=
  OpenClaim.laidByTextAt_later rfl rfl tie4 noOwnUnsafe
theorem tie5 : Tryd.prog.laidByTextLater [("loop.example/g00664/impl.condNames", Rows.laid_loop_example_g00664_impl_condNames)] [.data] true :=
  Program.laidByTextLater.sub seatTie1 ["loop.example/g00664/impl.condNames"] (by kernel_rfl) (by kernel_rfl)
theorem fnExactCondName_row_tie : Rows.fnExactCondNameRow.laidByTextAt .later Tryd.pinned [.data] true :=
  OpenClaim.laidByTextAt_later rfl rfl tie5 noOwnUnsafe
theorem fnExactCondOf_row_tie : Rows.fnExactCondOfRow.laidByTextAt .later Tryd.pinned [.data] true :=
  OpenClaim.laidByTextAt_later rfl rfl tie5 noOwnUnsafe
theorem tie6 : Tryd.prog.laidByTextLater [("loop.example/g00664/impl.byteNames", Rows.laid_loop_example_g00664_impl_byteNames), ("loop.example/g00664/impl.wordNames", Rows.laid_loop_example_g00664_impl_wordNames), ("loop.example/g00664/impl.dwordNames", Rows.laid_loop_example_g00664_impl_dwordNames), ("loop.example/g00664/impl.qwordNames", Rows.laid_loop_example_g00664_impl_qwordNames)] [.data, .data, .data, .data] true :=
  Program.laidByTextLater.sub seatTie1 ["loop.example/g00664/impl.byteNames", "loop.example/g00664/impl.wordNames", "loop.example/g00664/impl.dwordNames", "loop.example/g00664/impl.qwordNames"] (by kernel_rfl) (by kernel_rfl)
theorem fnExactRegName_row_tie : Rows.fnExactRegNameRow.laidByTextAt .later Tryd.pinned [.data, .data, .data, .data] true :=
  OpenClaim.laidByTextAt_later rfl rfl tie6 noOwnUnsafe
theorem fnExactRegOf_row_tie : Rows.fnExactRegOfRow.laidByTextAt .later Tryd.pinned [.data, .data, .data, .data] true :=
  OpenClaim.laidByTextAt_later rfl rfl tie6 noOwnUnsafe
theorem fnNamesUpto_row_tie : Rows.fnNamesUptoRow.laidByTextAt .later Tryd.pinned [.data, .data, .data, .data, .data, .data, .data, .data] true :=
  OpenClaim.laidByTextAt_later rfl rfl tie noOwnUnsafe
theorem fnExactShapeOfUpto_row_tie : Rows.fnExactShapeOfUptoRow.laidByTextAt .later Tryd.pinned [.data] true :=
  OpenClaim.laidByTextAt_later rfl rfl tie2 noOwnUnsafe
theorem fnExactGroupOpUpto_row_tie : Rows.fnExactGroupOpUptoRow.laidByTextAt .later Tryd.pinned [.data] true :=
  OpenClaim.laidByTextAt_later rfl rfl tie3 noOwnUnsafe
theorem fnExactOpNameUpto_row_tie : Rows.fnExactOpNameUptoRow.laidByTextAt .later Tryd.pinned [.data] true :=
  OpenClaim.laidByTextAt_later rfl rfl tie4 noOwnUnsafe
theorem fnExactOpOfUpto_row_tie : Rows.fnExactOpOfUptoRow.laidByTextAt .later Tryd.pinned [.data] true :=
  OpenClaim.laidByTextAt_later rfl rfl tie4 noOwnUnsafe
theorem fnExactCondNameUpto_row_tie : Rows.fnExactCondNameUptoRow.laidByTextAt .later Tryd.pinned [.data] true :=
  OpenClaim.laidByTextAt_later rfl rfl tie5 noOwnUnsafe
theorem fnExactCondOfUpto_row_tie : Rows.fnExactCondOfUptoRow.laidByTextAt .later Tryd.pinned [.data] true :=
  OpenClaim.laidByTextAt_later rfl rfl tie5 noOwnUnsafe
theorem fnExactRegNameUpto_row_tie : Rows.fnExactRegNameUptoRow.laidByTextAt .later Tryd.pinned [.data, .data, .data, .data] true :=
  OpenClaim.laidByTextAt_later rfl rfl tie6 noOwnUnsafe
theorem fnExactRegOfUpto_row_tie : Rows.fnExactRegOfUptoRow.laidByTextAt .later Tryd.pinned [.data, .data, .data, .data] true :=
  OpenClaim.laidByTextAt_later rfl rfl tie6 noOwnUnsafe
end Go.Proofs.YtdfmchknpiodkaaDoor
