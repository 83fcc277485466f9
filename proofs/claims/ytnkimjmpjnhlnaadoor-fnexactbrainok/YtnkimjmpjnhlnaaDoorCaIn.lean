/- StaysIn of both sides. -/
import Derived.Test.YtnkimjmpjnhlnaaDoorCa
namespace Go.Proofs.YtnkimjmpjnhlnaaDoor.cas
open Go.ChangeShapes Go.WideShapes Go.ChangeAt Go.RowKit
open Go.Proofs.YtnkimjmpjnhlnaaDoor.nums Go.Proofs.YtnkimjmpjnhlnaaDoor.mem
open Go.Proofs.YtnkimjmpjnhlnaaDoor.il (nth IRow vals vals_snoc gr_own row_base RetI infoInt)
set_option linter.unusedVariables false

theorem in_len (c : Int) : (staysIn c).length ≤ 6 := to_len c 6

end Go.Proofs.YtnkimjmpjnhlnaaDoor.cas
