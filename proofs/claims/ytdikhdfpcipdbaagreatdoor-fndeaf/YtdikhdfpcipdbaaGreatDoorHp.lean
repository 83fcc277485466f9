/- Chapter 19 of the model: what happens to a right world. -/
import Derived.Test.YtdikhdfpcipdbaaGreatDoorTm
namespace Go.Proofs.YtdikhdfpcipdbaaGreatDoor.wd
open Go.ChangeShapes Go.WideShapes Go.ChangeAt Go.RowKit
open Go.Proofs.YtdikhdfpcipdbaaGreatDoor.nums Go.Proofs.YtdikhdfpcipdbaaGreatDoor.mem
open Go.Proofs.YtdikhdfpcipdbaaGreatDoor.tab (Ret quiet_w)
open Go.Proofs.YtdikhdfpcipdbaaGreatDoor.il (nth)
open Go.Proofs.YtdikhdfpcipdbaaGreatDoor.br (B P OkB Arg OwnB str bv Seven)
set_option linter.unusedVariables false

def lows : List Int := [0, 0, 0, -1, 0, 0, -3, -1000000]
def highs : List Int := [1, 2, 5, 2, 100, 200, 3, 1000000]
abbrev lowA : Array Value := #[.int .i64 0, .int .i64 0, .int .i64 0, .int .i64 (-1), .int .i64 0, .int .i64 0, .int .i64 (-3), .int .i64 (-1000000)]
abbrev highA : Array Value := #[.int .i64 1, .int .i64 2, .int .i64 5, .int .i64 2, .int .i64 100, .int .i64 200, .int .i64 3, .int .i64 1000000]
theorem low_at {j : Nat} (h : j < 8) : lowA[j]? = some (.int .i64 (nth lows j)) := by
  rcases (show j = 0 ∨ j = 1 ∨ j = 2 ∨ j = 3 ∨ j = 4 ∨ j = 5 ∨ j = 6 ∨ j = 7 by omega) with rfl | rfl | rfl | rfl | rfl | rfl | rfl | rfl <;> rfl
theorem high_at {j : Nat} (h : j < 8) : highA[j]? = some (.int .i64 (nth highs j)) := by
  rcases (show j = 0 ∨ j = 1 ∨ j = 2 ∨ j = 3 ∨ j = 4 ∨ j = 5 ∨ j = 6 ∨ j = 7 by omega) with rfl | rfl | rfl | rfl | rfl | rfl | rfl | rfl <;> rfl

set_option maxRecDepth 100000 in
set_option maxHeartbeats 2000000 in
theorem specRange (j : Nat) (w : World) (hj : j < 8) : Calls Tryz.prog 111 #[.int .i64 ((j : Int) + 1)] w (Ret (.tuple #[.int .i64 (nth lows j), .int .i64 (nth highs j)]) w) := by
  have D := (Has.fresh w 2 lowA).alloc (Obj.cells highA 2)
  have E := Has.fresh (w.alloc (Obj.cells lowA 2)) 2 highA
  have G := gr_alloc (World.grownBy_alloc w (Obj.cells lowA 2) none) (Obj.cells highA 2)
  simp only [World.size_alloc] at E
  have cd := (D.cell j).trans (low_at hj)
  have ce := (E.cell j).trans (high_at hj)
  go_enter Tryz.func111, Tryz.ntmps111
  go_upto_region 3 with fail
  generalize nth lows j = lo at *
  generalize nth highs j = hi at *
  generalize (w.alloc (Obj.cells lowA 2)).alloc (Obj.cells highA 2) = v0 at *
  go_quiet (fail)
  go_wp2_with fail
  exact bodyPost_ret (v := .tuple #[.int .i64 lo, .int .i64 hi]) (by simp [results, Tryz.results111, go_sem]) rfl ⟨rfl, gr_drewN G nq⟩
end Go.Proofs.YtdikhdfpcipdbaaGreatDoor.wd
