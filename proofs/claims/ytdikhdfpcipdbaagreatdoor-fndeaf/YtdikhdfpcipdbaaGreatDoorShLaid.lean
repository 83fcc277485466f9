/- What the listed variable's condition gives: the six rows of two weights; and a demand that came in. -/
import Derived.Test.YtdikhdfpcipdbaaGreatDoorSh
import Derived.Lib.LaidTab
import Derived.Lib.LaidU8
import Derived.Deep.Strs
import Derived.Deep.DeepCutAuto
namespace Go.Proofs.YtdikhdfpcipdbaaGreatDoor.sh
open Go.ChangeShapes Go.WideShapes Go.ChangeAt Go.RowKit
open Go.Proofs.YtdikhdfpcipdbaaGreatDoor.mem
open Go.Proofs.YtdikhdfpcipdbaaGreatDoor.tab (Ret)
set_option linter.unusedVariables false

theorem cellsInt : Tryz.prog.cellsOf 2 = 1 := by kernel_rfl
theorem cellsRow : Tryz.prog.cellsOf 284 = 2 := by kernel_rfl
theorem rows_at {H : Type} {ds : List (DataW H)} (h : ds = [Lib.tabData .i64 [2, 0], Lib.tabData .i64 [1, 2], Lib.tabData .i64 [-1, 2], Lib.tabData .i64 [-2, 0], Lib.tabData .i64 [-1, -2], Lib.tabData .i64 [1, -2]]) {k : Nat} (hk : k < 6) : ds[k]? = some (Lib.tabData .i64 [tR k, tP k]) := by
  subst h
  rcases six hk with rfl | rfl | rfl | rfl | rfl | rfl <;> rfl

/-- A demand comes back; of what was there nothing is another. -/
def RetD (l r p : Int) (w : World) (e : Ending) (w' : World) : Prop := e = .returned (dem l r p) ∧ w.grownBy w' none

end Go.Proofs.YtdikhdfpcipdbaaGreatDoor.sh
