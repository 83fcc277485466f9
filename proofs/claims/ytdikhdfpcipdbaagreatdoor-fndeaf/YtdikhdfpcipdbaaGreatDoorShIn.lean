/- weightsIn of the program: the set of the fans that stay on. -/
import Derived.Test.YtdikhdfpcipdbaaGreatDoorShSet
import Derived.Lib.Hide
namespace Go.Proofs.YtdikhdfpcipdbaaGreatDoor.sh
open Go.ChangeShapes Go.WideShapes Go.ChangeAt Go.RowKit
open Go.Proofs.YtdikhdfpcipdbaaGreatDoor.nums Go.Proofs.YtdikhdfpcipdbaaGreatDoor.mem
set_option linter.unusedVariables false

/-- Does the k-th fan stay on? -/
def on (c : Int) (k : Nat) : Bool := cas.staysOn c (k : Int)
/-- A set of fans comes back in memory of its own; of what was there nothing is another. -/
def RetSet (S : Nat → Bool) (w : World) (e : Ending) (w' : World) : Prop := ∃ b, e = .returned (.map (some b)) ∧ w.heap.size ≤ b ∧ w.grownBy w' none ∧ IsSet w' b S

end Go.Proofs.YtdikhdfpcipdbaaGreatDoor.sh
