/-
  DERIVED. GIVEN WITH THE SEED: THE PROGRAM's TIES (one call each: nine closed facts by the kernel) AND EACH ROW's TIE, after the 31st guide's Derived/Test/Toyas{Tie, Card}.lean. No idea stands in it: it is a product of the set-up. Laid BY PROGRAM, IN A SANDBOX (cutbox-door.mjs). By AI agents, Wed Nov 11 2026. No macro, syntax, notation, axiom, sorry.
-/
import Derived.Test.YtlalldlbgnlbjaaGreatDoorRows
import Derived.LaidByTextLater
import Derived.SevenTiedAt
import Derived.LaidSub
import Derived.LaidOnce
namespace Go.Proofs.YtlalldlbgnlbjaaGreatDoor
open Go
set_option maxRecDepth 100000
theorem seatTie1 : Tryz.prog.laidByTextLater [("errors.errorType", Rows.laid_errors_errorType), ("loop.example/g00384/impl.msgShapes", Rows.laid_loop_example_g00384_impl_msgShapes), ("loop.example/g00384/impl.errBusy", Rows.laid_loop_example_g00384_impl_errBusy), ("loop.example/g00384/impl.errOwns", Rows.laid_loop_example_g00384_impl_errOwns), ("loop.example/g00384/impl.errFull", Rows.laid_loop_example_g00384_impl_errFull), ("loop.example/g00384/impl.errTwice", Rows.laid_loop_example_g00384_impl_errTwice), ("loop.example/g00384/impl.errUnasked", Rows.laid_loop_example_g00384_impl_errUnasked)] [.handle, .data, .sentinel, .sentinel, .sentinel, .sentinel, .sentinel] true :=
  Program.laidByTextLater_by_one 125 8 41 (by kernel_rfl) (by kernel_rfl) (by kernel_rfl) (by kernel_rfl) (by kernel_rfl) (by kernel_rfl) (fun _ _ => by kernel_rfl)
theorem noOwnUnsafe : Tryz.pinned.checked.prog.headLifts.contains "ownunsafe" = false := by kernel_rfl
theorem tie : Tryz.prog.laidByTextLater [("errors.errorType", Rows.laid_errors_errorType), ("loop.example/g00384/impl.msgShapes", Rows.laid_loop_example_g00384_impl_msgShapes), ("loop.example/g00384/impl.errBusy", Rows.laid_loop_example_g00384_impl_errBusy), ("loop.example/g00384/impl.errOwns", Rows.laid_loop_example_g00384_impl_errOwns), ("loop.example/g00384/impl.errFull", Rows.laid_loop_example_g00384_impl_errFull), ("loop.example/g00384/impl.errTwice", Rows.laid_loop_example_g00384_impl_errTwice), ("loop.example/g00384/impl.errUnasked", Rows.laid_loop_example_g00384_impl_errUnasked)] [.handle, .data, .sentinel, .sentinel, .sentinel, .sentinel, .sentinel] true :=
  Program.laidByTextLater.sub seatTie1 ["errors.errorType", "loop.example/g00384/impl.msgShapes", "loop.example/g00384/impl.errBusy", "loop.example/g00384/impl.errOwns", "loop.example/g00384/impl.errFull", "loop.example/g00384/impl.errTwice", "loop.example/g00384/impl.errUnasked"] (by kernel_rfl) (by kernel_rfl)
theorem fnExactHomeGot_row_tie : Rows.fnExactHomeGotRow.laidByTextAt .later Tryz.pinned [.handle, .data, .sentinel, .sentinel, .sentinel, .sentinel, .sentinel] true :=
  OpenClaim.laidByTextAt_later rfl rfl tie noOwnUnsafe
theorem fnHomeGot_row_tie : Rows.fnHomeGotRow.laidByTextAt .later Tryz.pinned [.handle, .data, .sentinel, .sentinel, .sentinel, .sentinel, .sentinel] true :=
  OpenClaim.laidByTextAt_later rfl rfl tie noOwnUnsafe
theorem fnExactHomeGotUpto_row_tie : Rows.fnExactHomeGotUptoRow.laidByTextAt .later Tryz.pinned [.handle, .data, .sentinel, .sentinel, .sentinel, .sentinel, .sentinel] true :=
  OpenClaim.laidByTextAt_later rfl rfl tie noOwnUnsafe
theorem fnHomeGotUpto_row_tie : Rows.fnHomeGotUptoRow.laidByTextAt .later Tryz.pinned [.handle, .data, .sentinel, .sentinel, .sentinel, .sentinel, .sentinel] true :=
  OpenClaim.laidByTextAt_later rfl rfl tie noOwnUnsafe
end Go.Proofs.YtlalldlbgnlbjaaGreatDoor
