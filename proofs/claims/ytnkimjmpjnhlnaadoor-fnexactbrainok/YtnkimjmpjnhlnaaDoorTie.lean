/-
  DERIVED. GIVEN WITH THE SEED: THE PROGRAM's TIES (one call each: nine closed facts by the kernel) AND EACH ROW's TIE, after the 31st guide's Derived/Test/Toyas{Tie, Card}.lean. No idea stands in it: it is a product of the set-up. Laid BY PROGRAM, IN A SANDBOX (cutbox-door.mjs). By AI agents, Wed Nov 11 2026. No macro, syntax, notation, axiom, sorry.
-/
import Derived.Test.YtnkimjmpjnhlnaaDoorRows
import Derived.LaidByTextLater
import Derived.SevenTiedAt
import Derived.LaidSub
import Derived.LaidOnce
namespace Go.Proofs.YtnkimjmpjnhlnaaDoor
open Go
set_option maxRecDepth 100000
theorem seatTie1 : Tryd.prog.laidByTextLater [("loop.example/g00619/impl.valuesOf", Rows.laid_loop_example_g00619_impl_valuesOf), ("loop.example/g00619/impl.errCannotBe", Rows.laid_loop_example_g00619_impl_errCannotBe)] [.data, .sentinel] true :=
  Program.laidByTextLater_by_one 33 8 6 (by kernel_rfl) (by kernel_rfl) (by kernel_rfl) (by kernel_rfl) (by kernel_rfl) (by kernel_rfl) (fun _ _ => by kernel_rfl)
theorem noOwnUnsafe : Tryd.pinned.checked.prog.headLifts.contains "ownunsafe" = false := by kernel_rfl
theorem tie : Tryd.prog.laidByTextLater [("loop.example/g00619/impl.valuesOf", Rows.laid_loop_example_g00619_impl_valuesOf), ("loop.example/g00619/impl.errCannotBe", Rows.laid_loop_example_g00619_impl_errCannotBe)] [.data, .sentinel] true :=
  Program.laidByTextLater.sub seatTie1 ["loop.example/g00619/impl.valuesOf", "loop.example/g00619/impl.errCannotBe"] (by kernel_rfl) (by kernel_rfl)
theorem fnExactBrainOk_row_tie : Rows.fnExactBrainOkRow.laidByTextAt .later Tryd.pinned [.data, .sentinel] true :=
  OpenClaim.laidByTextAt_later rfl rfl tie noOwnUnsafe
theorem tie2 : Tryd.prog.laidByTextLater [("loop.example/g00619/impl.valuesOf", Rows.laid_loop_example_g00619_impl_valuesOf)] [.data] true :=
  Program.laidByTextLater.sub seatTie1 ["loop.example/g00619/impl.valuesOf"] (by kernel_rfl) (by kernel_rfl)
theorem fnExactNewBrain_row_tie : Rows.fnExactNewBrainRow.laidByTextAt .later Tryd.pinned [.data] true :=
  OpenClaim.laidByTextAt_later rfl rfl tie2 noOwnUnsafe
theorem fnExactBrainOkUpto_row_tie : Rows.fnExactBrainOkUptoRow.laidByTextAt .later Tryd.pinned [.data, .sentinel] true :=
  OpenClaim.laidByTextAt_later rfl rfl tie noOwnUnsafe
theorem fnExactNewBrainUpto_row_tie : Rows.fnExactNewBrainUptoRow.laidByTextAt .later Tryd.pinned [.data] true :=
  OpenClaim.laidByTextAt_later rfl rfl tie2 noOwnUnsafe
end Go.Proofs.YtnkimjmpjnhlnaaDoor
