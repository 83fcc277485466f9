/- Chapter 3: the program's functions answer as one plain function does. -/
import Derived.Test.YtnkimjmpjnhlnaaDoorBncSpec
import Derived.WalkMore
namespace Go.Proofs.YtnkimjmpjnhlnaaDoor.bnc
open Go.ChangeShapes Go.WideShapes Go.ChangeAt Go.RowKit
open Go.Proofs.YtnkimjmpjnhlnaaDoor.nums Go.Proofs.YtnkimjmpjnhlnaaDoor.mem
open Go.Proofs.YtnkimjmpjnhlnaaDoor.tab (Ret quiet_w)
set_option linter.unusedVariables false

theorem implBounceOk (N : Int) (on : Bool) (w : World) : Calls Tryd.prog 64 #[.agg #[.int .i64 N, .bool on]] w (Ret (.bool (inb N 0 100)) w) := by
  by_cases h : 0 ≤ N
  · go_enter Tryd.func64, Tryd.ntmps64
    go_wp2
    go_ret
    exact ⟨fix.ret_bool (by unfold inb; simp [h]), World.grownBy_alloc _ _ _⟩
  · go_enter Tryd.func64, Tryd.ntmps64
    go_wp2
    go_ret
    exact ⟨fix.ret_bool (by unfold inb; simp; omega), World.grownBy_alloc _ _ _⟩

theorem many_one (u d : Int) (b : B) (s : Bool) : many u d b [s] = one u d b s := by unfold many one; simp [felt]

end Go.Proofs.YtnkimjmpjnhlnaaDoor.bnc
