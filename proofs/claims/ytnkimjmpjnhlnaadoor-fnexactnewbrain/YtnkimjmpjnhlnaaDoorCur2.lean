/- The cursor, continued: a new one; the draw of a size; the draws of chapter 1. -/
import Derived.Test.YtnkimjmpjnhlnaaDoorCur
namespace Go.Proofs.YtnkimjmpjnhlnaaDoor.cur
open Go.ChangeShapes Go.WideShapes Go.ChangeAt Go.RowKit
open Go.Proofs.YtnkimjmpjnhlnaaDoor.nums Go.Proofs.YtnkimjmpjnhlnaaDoor.mem
set_option linter.unusedVariables false

def tab7 (k : Nat) : Int := [0, 1000000, 1000001, -1000000, -1000001, 4611686018427387904, -4611686018427387904].getD k 0
theorem tab7_in (k : Nat) (hk : k < 7) : In64 (tab7 k) := by
  obtain rfl | rfl | rfl | rfl | rfl | rfl | rfl : k = 0 ∨ k = 1 ∨ k = 2 ∨ k = 3 ∨ k = 4 ∨ k = 5 ∨ k = 6 := by omega
  all_goals exact ⟨by decide, by decide⟩
theorem tab7_cell (k : Nat) (hk : k < 7) : #[Value.int .i64 0, .int .i64 1000000, .int .i64 1000001, .int .i64 (-1000000), .int .i64 (-1000001), .int .i64 4611686018427387904, .int .i64 (-4611686018427387904)][k]? = some (.int .i64 (tab7 k)) := by
  obtain rfl | rfl | rfl | rfl | rfl | rfl | rfl : k = 0 ∨ k = 1 ∨ k = 2 ∨ k = 3 ∨ k = 4 ∨ k = 5 ∨ k = 6 := by omega
  all_goals rfl

def Three (w : World) (e : Ending) (w' : World) : Prop :=
  ∃ x y z : Int, In64 x ∧ In64 y ∧ In64 z ∧ e = .returned (.tuple #[.int .i64 x, .int .i64 y, .int .i64 z]) ∧ w.grownBy w' none
def Two (w : World) (e : Ending) (w' : World) : Prop :=
  ∃ x y : Int, In64 x ∧ In64 y ∧ e = .returned (.tuple #[.int .i64 x, .int .i64 y]) ∧ w.grownBy w' none
def One (w : World) (e : Ending) (w' : World) : Prop :=
  ∃ x : Int, In64 x ∧ e = .returned (.int .i64 x) ∧ w.grownBy w' none

def tab6 (k : Nat) : Int := [-1, 0, 1, 999999999999, 1000000000000, 1000000000001].getD k 0
theorem tab6_in (k : Nat) (hk : k < 6) : In64 (tab6 k) := by
  obtain rfl | rfl | rfl | rfl | rfl | rfl : k = 0 ∨ k = 1 ∨ k = 2 ∨ k = 3 ∨ k = 4 ∨ k = 5 := by omega
  all_goals exact ⟨by decide, by decide⟩
theorem tab6_cell (k : Nat) (hk : k < 6) : #[Value.int .i64 (-1), .int .i64 0, .int .i64 1, .int .i64 999999999999, .int .i64 1000000000000, .int .i64 1000000000001][k]? = some (.int .i64 (tab6 k)) := by
  obtain rfl | rfl | rfl | rfl | rfl | rfl : k = 0 ∨ k = 1 ∨ k = 2 ∨ k = 3 ∨ k = 4 ∨ k = 5 := by omega
  all_goals rfl

end Go.Proofs.YtnkimjmpjnhlnaaDoor.cur
