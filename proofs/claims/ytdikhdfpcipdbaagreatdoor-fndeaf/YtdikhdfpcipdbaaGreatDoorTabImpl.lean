/- The program's chapter 2: contracts of pointOk and yBetween, and of TableOk. -/
import Derived.Test.YtdikhdfpcipdbaaGreatDoorTabIter
namespace Go.Proofs.YtdikhdfpcipdbaaGreatDoor.tab
open Go.ChangeShapes Go.WideShapes Go.ChangeAt Go.RowKit Go.Shelf
open Go.Proofs.YtdikhdfpcipdbaaGreatDoor.nums Go.Proofs.YtdikhdfpcipdbaaGreatDoor.mem
set_option linter.unusedVariables false

end Go.Proofs.YtdikhdfpcipdbaaGreatDoor.tab
