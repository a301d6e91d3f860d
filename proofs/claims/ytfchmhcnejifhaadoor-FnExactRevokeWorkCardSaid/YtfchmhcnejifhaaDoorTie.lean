/-
  DERIVED. GIVEN WITH THE SEED: THE PROGRAM's TIES (one call each: nine closed facts by the kernel) AND EACH ROW's TIE, after the 31st guide's Derived/Test/Toyas{Tie, Card}.lean. No idea stands in it: it is a product of the set-up. Laid BY PROGRAM, IN A SANDBOX (cutbox-door.mjs). By AI agents, Wed Nov 11 2026. No macro, syntax, notation, axiom, sorry.
-/
import Derived.Test.YtfchmhcnejifhaaDoorRows
import Derived.LaidByTextLater
import Derived.SevenTiedAt
import Derived.LaidSub
import Derived.LaidOnce
namespace Go.Proofs.YtfchmhcnejifhaaDoor
open Go
set_option maxRecDepth 100000
theorem seatTie1 : Tryd.prog.laidByTextLater [("errors.errorType", Rows.laid_errors_errorType), ("loop.example/g00167/impl.errNotGood", Rows.laid_loop_example_g00167_impl_errNotGood), ("loop.example/g00167/impl.errTwice", Rows.laid_loop_example_g00167_impl_errTwice), ("loop.example/g00167/impl.errNoWork", Rows.laid_loop_example_g00167_impl_errNoWork), ("loop.example/g00167/impl.errFull", Rows.laid_loop_example_g00167_impl_errFull)] [.handle, .sentinel, .sentinel, .sentinel, .sentinel] true :=
  Program.laidByTextLater_by_one 92 8 2 (by kernel_rfl) (by kernel_rfl) (by kernel_rfl) (by kernel_rfl) (by kernel_rfl) (by kernel_rfl) (fun _ _ => by kernel_rfl)
theorem noOwnUnsafe : Tryd.pinned.checked.prog.headLifts.contains "ownunsafe" = false := by kernel_rfl
theorem tie : Tryd.prog.laidByTextLater [("errors.errorType", Rows.laid_errors_errorType), ("loop.example/g00167/impl.errNotGood", Rows.laid_loop_example_g00167_impl_errNotGood), ("loop.example/g00167/impl.errTwice", Rows.laid_loop_example_g00167_impl_errTwice), ("loop.example/g00167/impl.errNoWork", Rows.laid_loop_example_g00167_impl_errNoWork), ("loop.example/g00167/impl.errFull", Rows.laid_loop_example_g00167_impl_errFull)] [.handle, .sentinel, .sentinel, .sentinel, .sentinel] true :=
  Program.laidByTextLater.sub seatTie1 ["errors.errorType", "loop.example/g00167/impl.errNotGood", "loop.example/g00167/impl.errTwice", "loop.example/g00167/impl.errNoWork", "loop.example/g00167/impl.errFull"] (by kernel_rfl) (by kernel_rfl)
theorem fnExactEnrolWork_row_tie : Rows.fnExactEnrolWorkRow.laidByTextAt .later Tryd.pinned [.handle, .sentinel, .sentinel, .sentinel, .sentinel] true :=
  OpenClaim.laidByTextAt_later rfl rfl tie noOwnUnsafe
theorem fnExactRevokeWork_row_tie : Rows.fnExactRevokeWorkRow.laidByTextAt .later Tryd.pinned [.handle, .sentinel, .sentinel, .sentinel, .sentinel] true :=
  OpenClaim.laidByTextAt_later rfl rfl tie noOwnUnsafe
theorem fnExactEnrolWorkUpto_row_tie : Rows.fnExactEnrolWorkUptoRow.laidByTextAt .later Tryd.pinned [.handle, .sentinel, .sentinel, .sentinel, .sentinel] true :=
  OpenClaim.laidByTextAt_later rfl rfl tie noOwnUnsafe
theorem fnExactRevokeWorkUpto_row_tie : Rows.fnExactRevokeWorkUptoRow.laidByTextAt .later Tryd.pinned [.handle, .sentinel, .sentinel, .sentinel, .sentinel] true :=
  OpenClaim.laidByTextAt_later rfl rfl tie noOwnUnsafe
end Go.Proofs.YtfchmhcnejifhaaDoor
