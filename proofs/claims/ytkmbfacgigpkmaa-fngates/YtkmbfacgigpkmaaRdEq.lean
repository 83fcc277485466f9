/- Two readings compared. -/
import Derived.Test.YtkmbfacgigpkmaaTabArg
import Derived.Laws.Small
import Derived.Laws.Entries
namespace Go.Proofs.Ytkmbfacgigpkmaa.rd
open Go.ChangeShapes Go.WideShapes Go.ChangeAt Go.RowKit
open Go.Proofs.Ytkmbfacgigpkmaa.nums Go.Proofs.Ytkmbfacgigpkmaa.mem
set_option linter.unusedVariables false

/-- A reading: its value, its age, whether it was. -/
abbrev R := Int × Int × Bool
def eqR (r s : R) : Bool := r.1 == s.1 && (r.2.1 == s.2.1 && r.2.2 == s.2.2)

theorem partI (w : World) (xs : Array Value) (k : Nat) (v : Int) (h : xs[k]? = some (.int .i64 v)) : (part 2 xs k).run Try.prog w = .ok (.int .i64 v) w := by
  simp [part, go_sem, h]
theorem partB (w : World) (xs : Array Value) (k : Nat) (v : Bool) (h : xs[k]? = some (.bool v)) : (part 4 xs k).run Try.prog w = .ok (.bool v) w := by
  simp [part, go_sem, h]
theorem eqI (w : World) (d : Nat) (a b : Int) : (Op.equalIn (d + 1) 2 (.int .i64 a) (.int .i64 b)).run Try.prog w = .ok (a == b) w := by
  simp [Op.equalIn, run_underlying Try.underlying2]
theorem eqB (w : World) (d : Nat) (a b : Bool) : (Op.equalIn (d + 1) 4 (.bool a) (.bool b)).run Try.prog w = .ok (a == b) w := run_equalIn_bool w d _ a b Try.underlying4
end Go.Proofs.Ytkmbfacgigpkmaa.rd
