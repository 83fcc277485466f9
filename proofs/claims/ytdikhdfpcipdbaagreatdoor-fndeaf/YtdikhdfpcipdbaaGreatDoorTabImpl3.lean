/- The program's TableOk whole; IsRising, At and GreatestY. -/
import Derived.Test.YtdikhdfpcipdbaaGreatDoorTabImpl2
namespace Go.Proofs.YtdikhdfpcipdbaaGreatDoor.tab
open Go.ChangeShapes Go.WideShapes Go.ChangeAt Go.RowKit Go.Shelf
open Go.Proofs.YtdikhdfpcipdbaaGreatDoor.nums Go.Proofs.YtdikhdfpcipdbaaGreatDoor.mem
set_option linter.unusedVariables false
attribute [local go_sem] Oper.semAt_some

end Go.Proofs.YtdikhdfpcipdbaaGreatDoor.tab
