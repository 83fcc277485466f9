/- Chapter 3: the program's functions answer as one plain function does. -/
import Derived.Test.YtdikhdfpcipdbaaGreatDoorBncSpec
import Derived.WalkMore
namespace Go.Proofs.YtdikhdfpcipdbaaGreatDoor.bnc
open Go.ChangeShapes Go.WideShapes Go.ChangeAt Go.RowKit
open Go.Proofs.YtdikhdfpcipdbaaGreatDoor.nums Go.Proofs.YtdikhdfpcipdbaaGreatDoor.mem
open Go.Proofs.YtdikhdfpcipdbaaGreatDoor.tab (Ret quiet_w)
set_option linter.unusedVariables false

theorem many_one (u d : Int) (b : B) (s : Bool) : many u d b [s] = one u d b s := by unfold many one; simp [felt]

end Go.Proofs.YtdikhdfpcipdbaaGreatDoor.bnc
