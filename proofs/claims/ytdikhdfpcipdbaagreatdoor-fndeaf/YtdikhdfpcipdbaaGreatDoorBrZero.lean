/- Seven zeros in a block. -/
import Derived.Test.YtdikhdfpcipdbaaGreatDoorBr
namespace Go.Proofs.YtdikhdfpcipdbaaGreatDoor.br
open Go.ChangeShapes Go.WideShapes Go.ChangeAt Go.RowKit
open Go.Proofs.YtdikhdfpcipdbaaGreatDoor.nums Go.Proofs.YtdikhdfpcipdbaaGreatDoor.mem
open Go.Proofs.YtdikhdfpcipdbaaGreatDoor.il (nth Ints Own)
set_option linter.unusedVariables false

theorem zero7_at {k : Nat} (h : k < 7) : (madeCells (Value.cells (.int .i64 0)) (7 * 1))[k]? = some (.int .i64 0) := by
  have hs : (madeCells (Value.cells (.int .i64 0)) (7 * 1)).size = 7 := size_madeCells _ _
  rcases (show k = 0 ∨ k = 1 ∨ k = 2 ∨ k = 3 ∨ k = 4 ∨ k = 5 ∨ k = 6 by omega) with rfl | rfl | rfl | rfl | rfl | rfl | rfl <;> simp [madeCells, Value.cells]
theorem own_zero7 {W : World} {b : Nat} (h : Has W b 2 (madeCells (Value.cells (.int .i64 0)) (7 * 1))) : il.Own W (some ⟨b, 0, none⟩) (List.replicate 7 0) :=
  Or.inr ⟨b, 0, _, rfl, h, fun k hk => by
    have hk7 : k < 7 := by simpa using hk
    rw [Nat.zero_add, zero7_at hk7]
    rcases (show k = 0 ∨ k = 1 ∨ k = 2 ∨ k = 3 ∨ k = 4 ∨ k = 5 ∨ k = 6 by omega) with rfl | rfl | rfl | rfl | rfl | rfl | rfl <;> rfl⟩
end Go.Proofs.YtdikhdfpcipdbaaGreatDoor.br
