/-
  DERIVED. GIVEN WITH THE SEED: THE PROGRAM's TIES (one call each: nine closed facts by the kernel) AND EACH ROW's TIE, after the 31st guide's Derived/Test/Toyas{Tie, Card}.lean. No idea stands in it: it is a product of the set-up. Laid BY PROGRAM, IN A SANDBOX (cutbox-door.mjs). By AI agents, Wed Nov 11 2026. No macro, syntax, notation, axiom, sorry.
-/
import Derived.Test.YtdikhdfpcipdbaaGreatDoorRows
import Derived.LaidByTextLater
import Derived.SevenTiedAt
import Derived.LaidSub
import Derived.LaidOnce
namespace Go.Proofs.YtdikhdfpcipdbaaGreatDoor
open Go
set_option maxRecDepth 100000
theorem seatTie1 : Tryz.prog.laidByTextLater [("errors.errorType", Rows.laid_errors_errorType), ("loop.example/g00619/impl.valuesOf", Rows.laid_loop_example_g00619_impl_valuesOf), ("loop.example/g00619/impl.errNotRight", Rows.laid_loop_example_g00619_impl_errNotRight), ("loop.example/g00619/impl.errTooFar", Rows.laid_loop_example_g00619_impl_errTooFar), ("loop.example/g00619/impl.errTooFast", Rows.laid_loop_example_g00619_impl_errTooFast), ("loop.example/g00619/impl.speedRange", Rows.laid_loop_example_g00619_impl_speedRange), ("loop.example/g00619/impl.heightRange", Rows.laid_loop_example_g00619_impl_heightRange)] [.handle, .data, .sentinel, .sentinel, .sentinel, .data, .data] true :=
  Program.laidByTextLater_by_one 88 8 6 (by kernel_rfl) (by kernel_rfl) (by kernel_rfl) (by kernel_rfl) (by kernel_rfl) (by kernel_rfl) (fun _ _ => by kernel_rfl)
theorem noOwnUnsafe : Tryz.pinned.checked.prog.headLifts.contains "ownunsafe" = false := by kernel_rfl
theorem tie : Tryz.prog.laidByTextLater [("errors.errorType", Rows.laid_errors_errorType), ("loop.example/g00619/impl.valuesOf", Rows.laid_loop_example_g00619_impl_valuesOf), ("loop.example/g00619/impl.errNotRight", Rows.laid_loop_example_g00619_impl_errNotRight), ("loop.example/g00619/impl.errTooFar", Rows.laid_loop_example_g00619_impl_errTooFar), ("loop.example/g00619/impl.errTooFast", Rows.laid_loop_example_g00619_impl_errTooFast), ("loop.example/g00619/impl.speedRange", Rows.laid_loop_example_g00619_impl_speedRange), ("loop.example/g00619/impl.heightRange", Rows.laid_loop_example_g00619_impl_heightRange)] [.handle, .data, .sentinel, .sentinel, .sentinel, .data, .data] true :=
  Program.laidByTextLater.sub seatTie1 ["errors.errorType", "loop.example/g00619/impl.valuesOf", "loop.example/g00619/impl.errNotRight", "loop.example/g00619/impl.errTooFar", "loop.example/g00619/impl.errTooFast", "loop.example/g00619/impl.speedRange", "loop.example/g00619/impl.heightRange"] (by kernel_rfl) (by kernel_rfl)
theorem fnSenses_row_tie : Rows.fnSensesRow.laidByTextAt .later Tryz.pinned [.handle, .data, .sentinel, .sentinel, .sentinel, .data, .data] true :=
  OpenClaim.laidByTextAt_later rfl rfl tie noOwnUnsafe
theorem fnDeaf_row_tie : Rows.fnDeafRow.laidByTextAt .later Tryz.pinned [.handle, .data, .sentinel, .sentinel, .sentinel, .data, .data] true :=
  OpenClaim.laidByTextAt_later rfl rfl tie noOwnUnsafe
theorem fnSensesUpto_row_tie : Rows.fnSensesUptoRow.laidByTextAt .later Tryz.pinned [.handle, .data, .sentinel, .sentinel, .sentinel, .data, .data] true :=
  OpenClaim.laidByTextAt_later rfl rfl tie noOwnUnsafe
theorem fnDeafUpto_row_tie : Rows.fnDeafUptoRow.laidByTextAt .later Tryz.pinned [.handle, .data, .sentinel, .sentinel, .sentinel, .data, .data] true :=
  OpenClaim.laidByTextAt_later rfl rfl tie noOwnUnsafe
end Go.Proofs.YtdikhdfpcipdbaaGreatDoor
