/-
  DERIVED. GIVEN WITH THE SEED: THE PROGRAM's TIES (one call each: nine closed facts by the kernel) AND EACH ROW's TIE, after the 31st guide's Derived/Test/Toyas{Tie, Card}.lean. No idea stands in it: it is a product of the set-up. Laid BY PROGRAM, IN A SANDBOX (cutbox-door.mjs). By AI agents, Wed Nov 11 2026. No macro, syntax, notation, axiom, sorry.
-/
import Derived.Test.YtjnjlgaemmdkhaaDoorRows
import Derived.LaidByTextLater
import Derived.SevenTiedAt
import Derived.LaidSub
import Derived.LaidOnce
namespace Go.Proofs.YtjnjlgaemmdkhaaDoor
open Go
set_option maxRecDepth 100000
theorem seatTie1 : Tryd.prog.laidByTextLater [("loop.example/g00664/impl.errRange", Rows.laid_loop_example_g00664_impl_errRange), ("loop.example/g00664/impl.condNames", Rows.laid_loop_example_g00664_impl_condNames), ("loop.example/g00664/impl.byteNames", Rows.laid_loop_example_g00664_impl_byteNames), ("loop.example/g00664/impl.wordNames", Rows.laid_loop_example_g00664_impl_wordNames), ("loop.example/g00664/impl.dwordNames", Rows.laid_loop_example_g00664_impl_dwordNames), ("loop.example/g00664/impl.qwordNames", Rows.laid_loop_example_g00664_impl_qwordNames)] [.sentinel, .data, .data, .data, .data, .data] true :=
  Program.laidByTextLater_by_one 53 8 21 (by kernel_rfl) (by kernel_rfl) (by kernel_rfl) (by kernel_rfl) (by kernel_rfl) (by kernel_rfl) (fun _ _ => by kernel_rfl)
theorem noOwnUnsafe : Tryd.pinned.checked.prog.headLifts.contains "ownunsafe" = false := by kernel_rfl
theorem tie : Tryd.prog.laidByTextLater [("loop.example/g00664/impl.errRange", Rows.laid_loop_example_g00664_impl_errRange), ("loop.example/g00664/impl.condNames", Rows.laid_loop_example_g00664_impl_condNames), ("loop.example/g00664/impl.byteNames", Rows.laid_loop_example_g00664_impl_byteNames), ("loop.example/g00664/impl.wordNames", Rows.laid_loop_example_g00664_impl_wordNames), ("loop.example/g00664/impl.dwordNames", Rows.laid_loop_example_g00664_impl_dwordNames), ("loop.example/g00664/impl.qwordNames", Rows.laid_loop_example_g00664_impl_qwordNames)] [.sentinel, .data, .data, .data, .data, .data] true :=
  Program.laidByTextLater.sub seatTie1 ["loop.example/g00664/impl.errRange", "loop.example/g00664/impl.condNames", "loop.example/g00664/impl.byteNames", "loop.example/g00664/impl.wordNames", "loop.example/g00664/impl.dwordNames", "loop.example/g00664/impl.qwordNames"] (by kernel_rfl) (by kernel_rfl)
theorem fnExactWritesReg_row_tie : Rows.fnExactWritesRegRow.laidByTextAt .later Tryd.pinned [.sentinel, .data, .data, .data, .data, .data] true :=
  OpenClaim.laidByTextAt_later rfl rfl tie noOwnUnsafe
theorem fnExactMemoryOf_row_tie : Rows.fnExactMemoryOfRow.laidByTextAt .later Tryd.pinned [.sentinel, .data, .data, .data, .data, .data] true :=
  OpenClaim.laidByTextAt_later rfl rfl tie noOwnUnsafe
theorem fnExactMaskOf_row_tie : Rows.fnExactMaskOfRow.laidByTextAt .later Tryd.pinned [.sentinel, .data, .data, .data, .data, .data] true :=
  OpenClaim.laidByTextAt_later rfl rfl tie noOwnUnsafe
theorem fnExactBaseAddOf_row_tie : Rows.fnExactBaseAddOfRow.laidByTextAt .later Tryd.pinned [.sentinel, .data, .data, .data, .data, .data] true :=
  OpenClaim.laidByTextAt_later rfl rfl tie noOwnUnsafe
theorem fnExactGoalOf_row_tie : Rows.fnExactGoalOfRow.laidByTextAt .later Tryd.pinned [.sentinel, .data, .data, .data, .data, .data] true :=
  OpenClaim.laidByTextAt_later rfl rfl tie noOwnUnsafe
theorem fnExactThroughOf_row_tie : Rows.fnExactThroughOfRow.laidByTextAt .later Tryd.pinned [.sentinel, .data, .data, .data, .data, .data] true :=
  OpenClaim.laidByTextAt_later rfl rfl tie noOwnUnsafe
theorem fnExactWritesRegUpto_row_tie : Rows.fnExactWritesRegUptoRow.laidByTextAt .later Tryd.pinned [.sentinel, .data, .data, .data, .data, .data] true :=
  OpenClaim.laidByTextAt_later rfl rfl tie noOwnUnsafe
theorem fnExactMemoryOfUpto_row_tie : Rows.fnExactMemoryOfUptoRow.laidByTextAt .later Tryd.pinned [.sentinel, .data, .data, .data, .data, .data] true :=
  OpenClaim.laidByTextAt_later rfl rfl tie noOwnUnsafe
theorem fnExactMaskOfUpto_row_tie : Rows.fnExactMaskOfUptoRow.laidByTextAt .later Tryd.pinned [.sentinel, .data, .data, .data, .data, .data] true :=
  OpenClaim.laidByTextAt_later rfl rfl tie noOwnUnsafe
theorem fnExactBaseAddOfUpto_row_tie : Rows.fnExactBaseAddOfUptoRow.laidByTextAt .later Tryd.pinned [.sentinel, .data, .data, .data, .data, .data] true :=
  OpenClaim.laidByTextAt_later rfl rfl tie noOwnUnsafe
theorem fnExactGoalOfUpto_row_tie : Rows.fnExactGoalOfUptoRow.laidByTextAt .later Tryd.pinned [.sentinel, .data, .data, .data, .data, .data] true :=
  OpenClaim.laidByTextAt_later rfl rfl tie noOwnUnsafe
theorem fnExactThroughOfUpto_row_tie : Rows.fnExactThroughOfUptoRow.laidByTextAt .later Tryd.pinned [.sentinel, .data, .data, .data, .data, .data] true :=
  OpenClaim.laidByTextAt_later rfl rfl tie noOwnUnsafe
end Go.Proofs.YtjnjlgaemmdkhaaDoor
