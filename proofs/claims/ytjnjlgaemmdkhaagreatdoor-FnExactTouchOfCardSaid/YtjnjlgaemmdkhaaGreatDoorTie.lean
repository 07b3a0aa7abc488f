/-
  DERIVED. GIVEN WITH THE SEED: THE PROGRAM's TIES (one call each: nine closed facts by the kernel) AND EACH ROW's TIE, after the 31st guide's Derived/Test/Toyas{Tie, Card}.lean. No idea stands in it: it is a product of the set-up. Laid BY PROGRAM, IN A SANDBOX (cutbox-door.mjs). By AI agents, Wed Nov 11 2026. No macro, syntax, notation, axiom, sorry.
-/
import Derived.Test.YtjnjlgaemmdkhaaGreatDoorRows
import Derived.LaidByTextLater
import Derived.SevenTiedAt
import Derived.LaidSub
import Derived.LaidOnce
namespace Go.Proofs.YtjnjlgaemmdkhaaGreatDoor
open Go
set_option maxRecDepth 100000
theorem seatTie1 : Tryz.prog.laidByTextLater [("loop.example/g00664/impl.errRange", Rows.laid_loop_example_g00664_impl_errRange), ("loop.example/g00664/impl.condNames", Rows.laid_loop_example_g00664_impl_condNames), ("loop.example/g00664/impl.byteNames", Rows.laid_loop_example_g00664_impl_byteNames), ("loop.example/g00664/impl.wordNames", Rows.laid_loop_example_g00664_impl_wordNames), ("loop.example/g00664/impl.dwordNames", Rows.laid_loop_example_g00664_impl_dwordNames), ("loop.example/g00664/impl.qwordNames", Rows.laid_loop_example_g00664_impl_qwordNames)] [.sentinel, .data, .data, .data, .data, .data] true :=
  Program.laidByTextLater_by_one 53 8 21 (by kernel_rfl) (by kernel_rfl) (by kernel_rfl) (by kernel_rfl) (by kernel_rfl) (by kernel_rfl) (fun _ _ => by kernel_rfl)
theorem noOwnUnsafe : Tryz.pinned.checked.prog.headLifts.contains "ownunsafe" = false := by kernel_rfl
theorem tie : Tryz.prog.laidByTextLater [("loop.example/g00664/impl.errRange", Rows.laid_loop_example_g00664_impl_errRange), ("loop.example/g00664/impl.condNames", Rows.laid_loop_example_g00664_impl_condNames), ("loop.example/g00664/impl.byteNames", Rows.laid_loop_example_g00664_impl_byteNames), ("loop.example/g00664/impl.wordNames", Rows.laid_loop_example_g00664_impl_wordNames), ("loop.example/g00664/impl.dwordNames", Rows.laid_loop_example_g00664_impl_dwordNames), ("loop.example/g00664/impl.qwordNames", Rows.laid_loop_example_g00664_impl_qwordNames)] [.sentinel, .data, .data, .data, .data, .data] true :=
  Program.laidByTextLater.sub seatTie1 ["loop.example/g00664/impl.errRange", "loop.example/g00664/impl.condNames", "loop.example/g00664/impl.byteNames", "loop.example/g00664/impl.wordNames", "loop.example/g00664/impl.dwordNames", "loop.example/g00664/impl.qwordNames"] (by kernel_rfl) (by kernel_rfl)
theorem fnExactTouchOf_row_tie : Rows.fnExactTouchOfRow.laidByTextAt .later Tryz.pinned [.sentinel, .data, .data, .data, .data, .data] true :=
  OpenClaim.laidByTextAt_later rfl rfl tie noOwnUnsafe
theorem fnExactTouchOfUpto_row_tie : Rows.fnExactTouchOfUptoRow.laidByTextAt .later Tryz.pinned [.sentinel, .data, .data, .data, .data, .data] true :=
  OpenClaim.laidByTextAt_later rfl rfl tie noOwnUnsafe
end Go.Proofs.YtjnjlgaemmdkhaaGreatDoor
