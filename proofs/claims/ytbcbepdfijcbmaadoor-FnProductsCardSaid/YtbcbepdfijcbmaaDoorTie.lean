/-
  DERIVED. GIVEN WITH THE SEED: THE PROGRAM's TIES (one call each: nine closed facts by the kernel) AND EACH ROW's TIE, after the 31st guide's Derived/Test/Toyas{Tie, Card}.lean. No idea stands in it: it is a product of the set-up. Laid BY PROGRAM, IN A SANDBOX (cutbox-door.mjs). By AI agents, Wed Nov 11 2026. No macro, syntax, notation, axiom, sorry.
-/
import Derived.Test.YtbcbepdfijcbmaaDoorRows
import Derived.LaidByTextLater
import Derived.SevenTiedAt
import Derived.LaidSub
import Derived.LaidOnce
namespace Go.Proofs.YtbcbepdfijcbmaaDoor
open Go
set_option maxRecDepth 100000
theorem seatTie1 : Tryd.prog.laidByTextLater [("loop.example/g00664/impl.errRange", Rows.laid_loop_example_g00664_impl_errRange), ("loop.example/g00664/impl.errEnd", Rows.laid_loop_example_g00664_impl_errEnd), ("loop.example/g00664/impl.byteNames", Rows.laid_loop_example_g00664_impl_byteNames), ("loop.example/g00664/impl.wordNames", Rows.laid_loop_example_g00664_impl_wordNames), ("loop.example/g00664/impl.dwordNames", Rows.laid_loop_example_g00664_impl_dwordNames), ("loop.example/g00664/impl.qwordNames", Rows.laid_loop_example_g00664_impl_qwordNames)] [.sentinel, .sentinel, .data, .data, .data, .data] true :=
  Program.laidByTextLater_by_one 67 8 21 (by kernel_rfl) (by kernel_rfl) (by kernel_rfl) (by kernel_rfl) (by kernel_rfl) (by kernel_rfl) (fun _ _ => by kernel_rfl)
theorem noOwnUnsafe : Tryd.pinned.checked.prog.headLifts.contains "ownunsafe" = false := by kernel_rfl
theorem tie : Tryd.prog.laidByTextLater [("loop.example/g00664/impl.errRange", Rows.laid_loop_example_g00664_impl_errRange), ("loop.example/g00664/impl.byteNames", Rows.laid_loop_example_g00664_impl_byteNames), ("loop.example/g00664/impl.wordNames", Rows.laid_loop_example_g00664_impl_wordNames), ("loop.example/g00664/impl.dwordNames", Rows.laid_loop_example_g00664_impl_dwordNames), ("loop.example/g00664/impl.qwordNames", Rows.laid_loop_example_g00664_impl_qwordNames)] [.sentinel, .data, .data, .data, .data] true :=
  Program.laidByTextLater.sub seatTie1 ["loop.example/g00664/impl.errRange", "loop.example/g00664/impl.byteNames", "loop.example/g00664/impl.wordNames", "loop.example/g00664/impl.dwordNames", "loop.example/g00664/impl.qwordNames"] (by kernel_rfl) (by kernel_rfl)
theorem fnExactGetReg_row_tie : Rows.fnExactGetRegRow.laidByTextAt .later Tryd.pinned [.sentinel, .data, .data, .data, .data] true :=
  OpenClaim.laidByTextAt_later rfl rfl tie noOwnUnsafe
theorem fnExactSetReg_row_tie : Rows.fnExactSetRegRow.laidByTextAt .later Tryd.pinned [.sentinel, .data, .data, .data, .data] true :=
  OpenClaim.laidByTextAt_later rfl rfl tie noOwnUnsafe
theorem fnExactAddressOf_row_tie : Rows.fnExactAddressOfRow.laidByTextAt .later Tryd.pinned [.sentinel, .data, .data, .data, .data] true :=
  OpenClaim.laidByTextAt_later rfl rfl tie noOwnUnsafe
theorem tie2 : Tryd.prog.laidByTextLater [("loop.example/g00664/impl.errRange", Rows.laid_loop_example_g00664_impl_errRange), ("loop.example/g00664/impl.errEnd", Rows.laid_loop_example_g00664_impl_errEnd), ("loop.example/g00664/impl.byteNames", Rows.laid_loop_example_g00664_impl_byteNames), ("loop.example/g00664/impl.wordNames", Rows.laid_loop_example_g00664_impl_wordNames), ("loop.example/g00664/impl.dwordNames", Rows.laid_loop_example_g00664_impl_dwordNames), ("loop.example/g00664/impl.qwordNames", Rows.laid_loop_example_g00664_impl_qwordNames)] [.sentinel, .sentinel, .data, .data, .data, .data] true :=
  Program.laidByTextLater.sub seatTie1 ["loop.example/g00664/impl.errRange", "loop.example/g00664/impl.errEnd", "loop.example/g00664/impl.byteNames", "loop.example/g00664/impl.wordNames", "loop.example/g00664/impl.dwordNames", "loop.example/g00664/impl.qwordNames"] (by kernel_rfl) (by kernel_rfl)
theorem fnRegs_row_tie : Rows.fnRegsRow.laidByTextAt .later Tryd.pinned [.sentinel, .sentinel, .data, .data, .data, .data] true :=
  OpenClaim.laidByTextAt_later rfl rfl tie2 noOwnUnsafe
theorem tie3 : Tryd.prog.laidByTextLater [("loop.example/g00664/impl.errRange", Rows.laid_loop_example_g00664_impl_errRange)] [.sentinel] true :=
  Program.laidByTextLater.sub seatTie1 ["loop.example/g00664/impl.errRange"] (by kernel_rfl) (by kernel_rfl)
theorem fnExactDivide_row_tie : Rows.fnExactDivideRow.laidByTextAt .later Tryd.pinned [.sentinel] true :=
  OpenClaim.laidByTextAt_later rfl rfl tie3 noOwnUnsafe
theorem fnProducts_row_tie : Rows.fnProductsRow.laidByTextAt .later Tryd.pinned [.sentinel] true :=
  OpenClaim.laidByTextAt_later rfl rfl tie3 noOwnUnsafe
theorem fnExactGetRegUpto_row_tie : Rows.fnExactGetRegUptoRow.laidByTextAt .later Tryd.pinned [.sentinel, .data, .data, .data, .data] true :=
  OpenClaim.laidByTextAt_later rfl rfl tie noOwnUnsafe
theorem fnExactSetRegUpto_row_tie : Rows.fnExactSetRegUptoRow.laidByTextAt .later Tryd.pinned [.sentinel, .data, .data, .data, .data] true :=
  OpenClaim.laidByTextAt_later rfl rfl tie noOwnUnsafe
theorem fnExactAddressOfUpto_row_tie : Rows.fnExactAddressOfUptoRow.laidByTextAt .later Tryd.pinned [.sentinel, .data, .data, .data, .data] true :=
  OpenClaim.laidByTextAt_later rfl rfl tie noOwnUnsafe
theorem fnRegsUpto_row_tie : Rows.fnRegsUptoRow.laidByTextAt .later Tryd.pinned [.sentinel, .sentinel, .data, .data, .data, .data] true :=
  OpenClaim.laidByTextAt_later rfl rfl tie2 noOwnUnsafe
theorem fnExactDivideUpto_row_tie : Rows.fnExactDivideUptoRow.laidByTextAt .later Tryd.pinned [.sentinel] true :=
  OpenClaim.laidByTextAt_later rfl rfl tie3 noOwnUnsafe
theorem fnProductsUpto_row_tie : Rows.fnProductsUptoRow.laidByTextAt .later Tryd.pinned [.sentinel] true :=
  OpenClaim.laidByTextAt_later rfl rfl tie3 noOwnUnsafe
end Go.Proofs.YtbcbepdfijcbmaaDoor
