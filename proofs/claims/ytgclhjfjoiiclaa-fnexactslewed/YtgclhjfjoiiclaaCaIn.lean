/- StaysIn of both sides. -/
import Derived.Test.YtgclhjfjoiiclaaCa
namespace Go.Proofs.Ytgclhjfjoiiclaa.cas
open Go.ChangeShapes Go.WideShapes Go.ChangeAt Go.RowKit
open Go.Proofs.Ytgclhjfjoiiclaa.nums Go.Proofs.Ytgclhjfjoiiclaa.mem
open Go.Proofs.Ytgclhjfjoiiclaa.il (nth IRow vals vals_snoc gr_own row_base RetI infoInt)
set_option linter.unusedVariables false

theorem in_len (c : Int) : (staysIn c).length ≤ 6 := to_len c 6

end Go.Proofs.Ytgclhjfjoiiclaa.cas
