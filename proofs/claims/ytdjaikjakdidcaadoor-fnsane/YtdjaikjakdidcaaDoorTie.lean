/-
  DERIVED. GIVEN WITH THE SEED: THE PROGRAM's TIES (one call each: nine closed facts by the kernel) AND EACH ROW's TIE, after the 31st guide's Derived/Test/Toyas{Tie, Card}.lean. No idea stands in it: it is a product of the set-up. Laid BY PROGRAM, IN A SANDBOX (cutbox-door.mjs). By AI agents, Wed Nov 11 2026. No macro, syntax, notation, axiom, sorry.
-/
import Derived.Test.YtdjaikjakdidcaaDoorRows
import Derived.LaidByTextLater
import Derived.SevenTiedAt
import Derived.LaidSub
import Derived.LaidOnce
namespace Go.Proofs.YtdjaikjakdidcaaDoor
open Go
set_option maxRecDepth 100000
theorem seatTie1 : Tryd.prog.laidByTextLater [("errors.errorType", Rows.laid_errors_errorType), ("loop.example/g00619/impl.errNotRight", Rows.laid_loop_example_g00619_impl_errNotRight), ("loop.example/g00619/impl.errTooFar", Rows.laid_loop_example_g00619_impl_errTooFar), ("loop.example/g00619/impl.errTooFast", Rows.laid_loop_example_g00619_impl_errTooFast)] [.handle, .sentinel, .sentinel, .sentinel] true :=
  Program.laidByTextLater_by_one 73 8 2 (by kernel_rfl) (by kernel_rfl) (by kernel_rfl) (by kernel_rfl) (by kernel_rfl) (by kernel_rfl) (fun _ _ => by kernel_rfl)
theorem noOwnUnsafe : Tryd.pinned.checked.prog.headLifts.contains "ownunsafe" = false := by kernel_rfl
theorem tie : Tryd.prog.laidByTextLater [("errors.errorType", Rows.laid_errors_errorType), ("loop.example/g00619/impl.errNotRight", Rows.laid_loop_example_g00619_impl_errNotRight), ("loop.example/g00619/impl.errTooFar", Rows.laid_loop_example_g00619_impl_errTooFar), ("loop.example/g00619/impl.errTooFast", Rows.laid_loop_example_g00619_impl_errTooFast)] [.handle, .sentinel, .sentinel, .sentinel] true :=
  Program.laidByTextLater.sub seatTie1 ["errors.errorType", "loop.example/g00619/impl.errNotRight", "loop.example/g00619/impl.errTooFar", "loop.example/g00619/impl.errTooFast"] (by kernel_rfl) (by kernel_rfl)
theorem fnSane_row_tie : Rows.fnSaneRow.laidByTextAt .later Tryd.pinned [.handle, .sentinel, .sentinel, .sentinel] true :=
  OpenClaim.laidByTextAt_later rfl rfl tie noOwnUnsafe
theorem fnExactTaken_row_tie : Rows.fnExactTakenRow.laidByTextAt .later Tryd.pinned [.handle, .sentinel, .sentinel, .sentinel] true :=
  OpenClaim.laidByTextAt_later rfl rfl tie noOwnUnsafe
theorem tie2 : Tryd.prog.laidByTextLater [("loop.example/g00619/impl.errNotRight", Rows.laid_loop_example_g00619_impl_errNotRight), ("loop.example/g00619/impl.errTooFar", Rows.laid_loop_example_g00619_impl_errTooFar), ("loop.example/g00619/impl.errTooFast", Rows.laid_loop_example_g00619_impl_errTooFast)] [.sentinel, .sentinel, .sentinel] true :=
  Program.laidByTextLater.sub seatTie1 ["loop.example/g00619/impl.errNotRight", "loop.example/g00619/impl.errTooFar", "loop.example/g00619/impl.errTooFast"] (by kernel_rfl) (by kernel_rfl)
theorem fnExactIsSane_row_tie : Rows.fnExactIsSaneRow.laidByTextAt .later Tryd.pinned [.sentinel, .sentinel, .sentinel] true :=
  OpenClaim.laidByTextAt_later rfl rfl tie2 noOwnUnsafe
theorem fnSaneUpto_row_tie : Rows.fnSaneUptoRow.laidByTextAt .later Tryd.pinned [.handle, .sentinel, .sentinel, .sentinel] true :=
  OpenClaim.laidByTextAt_later rfl rfl tie noOwnUnsafe
theorem fnExactIsSaneUpto_row_tie : Rows.fnExactIsSaneUptoRow.laidByTextAt .later Tryd.pinned [.sentinel, .sentinel, .sentinel] true :=
  OpenClaim.laidByTextAt_later rfl rfl tie2 noOwnUnsafe
theorem fnExactTakenUpto_row_tie : Rows.fnExactTakenUptoRow.laidByTextAt .later Tryd.pinned [.handle, .sentinel, .sentinel, .sentinel] true :=
  OpenClaim.laidByTextAt_later rfl rfl tie noOwnUnsafe
end Go.Proofs.YtdjaikjakdidcaaDoor
