/-
  DERIVED. GIVEN WITH THE SEED: THE PROGRAM's TIES (one call each: nine closed facts by the kernel) AND EACH ROW's TIE, after the 31st guide's Derived/Test/Toyas{Tie, Card}.lean. No idea stands in it: it is a product of the set-up. Laid BY PROGRAM, IN A SANDBOX (cutbox-door.mjs). By AI agents, Wed Nov 11 2026. No macro, syntax, notation, axiom, sorry.
-/
import Derived.Test.YtlalldlbgnlbjaaDoorRows
import Derived.LaidByTextLater
import Derived.SevenTiedAt
import Derived.LaidSub
import Derived.LaidOnce
namespace Go.Proofs.YtlalldlbgnlbjaaDoor
open Go
set_option maxRecDepth 100000
theorem seatTie1 : Tryd.prog.laidByTextLater [("errors.errorType", Rows.laid_errors_errorType), ("loop.example/g00384/impl.msgShapes", Rows.laid_loop_example_g00384_impl_msgShapes), ("loop.example/g00384/impl.errBusy", Rows.laid_loop_example_g00384_impl_errBusy), ("loop.example/g00384/impl.errOwns", Rows.laid_loop_example_g00384_impl_errOwns)] [.handle, .data, .sentinel, .sentinel] true :=
  Program.laidByTextLater_by_one 68 8 41 (by kernel_rfl) (by kernel_rfl) (by kernel_rfl) (by kernel_rfl) (by kernel_rfl) (by kernel_rfl) (fun _ _ => by kernel_rfl)
theorem noOwnUnsafe : Tryd.pinned.checked.prog.headLifts.contains "ownunsafe" = false := by kernel_rfl
theorem tie : Tryd.prog.laidByTextLater [("errors.errorType", Rows.laid_errors_errorType), ("loop.example/g00384/impl.errBusy", Rows.laid_loop_example_g00384_impl_errBusy), ("loop.example/g00384/impl.errOwns", Rows.laid_loop_example_g00384_impl_errOwns)] [.handle, .sentinel, .sentinel] true :=
  Program.laidByTextLater.sub seatTie1 ["errors.errorType", "loop.example/g00384/impl.errBusy", "loop.example/g00384/impl.errOwns"] (by kernel_rfl) (by kernel_rfl)
theorem fnExactBegun_row_tie : Rows.fnExactBegunRow.laidByTextAt .later Tryd.pinned [.handle, .sentinel, .sentinel] true :=
  OpenClaim.laidByTextAt_later rfl rfl tie noOwnUnsafe
theorem tie2 : Tryd.prog.laidByTextLater [("errors.errorType", Rows.laid_errors_errorType), ("loop.example/g00384/impl.msgShapes", Rows.laid_loop_example_g00384_impl_msgShapes), ("loop.example/g00384/impl.errBusy", Rows.laid_loop_example_g00384_impl_errBusy), ("loop.example/g00384/impl.errOwns", Rows.laid_loop_example_g00384_impl_errOwns)] [.handle, .data, .sentinel, .sentinel] true :=
  Program.laidByTextLater.sub seatTie1 ["errors.errorType", "loop.example/g00384/impl.msgShapes", "loop.example/g00384/impl.errBusy", "loop.example/g00384/impl.errOwns"] (by kernel_rfl) (by kernel_rfl)
theorem fnBegun_row_tie : Rows.fnBegunRow.laidByTextAt .later Tryd.pinned [.handle, .data, .sentinel, .sentinel] true :=
  OpenClaim.laidByTextAt_later rfl rfl tie2 noOwnUnsafe
theorem fnExactBegunUpto_row_tie : Rows.fnExactBegunUptoRow.laidByTextAt .later Tryd.pinned [.handle, .sentinel, .sentinel] true :=
  OpenClaim.laidByTextAt_later rfl rfl tie noOwnUnsafe
theorem fnBegunUpto_row_tie : Rows.fnBegunUptoRow.laidByTextAt .later Tryd.pinned [.handle, .data, .sentinel, .sentinel] true :=
  OpenClaim.laidByTextAt_later rfl rfl tie2 noOwnUnsafe
end Go.Proofs.YtlalldlbgnlbjaaDoor
