/- The program's At. LiftPart and PushFor of both sides. -/
import Derived.Test.YtdikhdfpcipdbaaGreatDoorG39
import Derived.Test.YtdikhdfpcipdbaaGreatDoorG18
import Derived.Test.YtdikhdfpcipdbaaGreatDoorG20
/- The program's At. -/
namespace Go.Proofs.YtdikhdfpcipdbaaGreatDoor.tab
open Go.ChangeShapes Go.WideShapes Go.ChangeAt Go.RowKit Go.Shelf
open Go.Proofs.YtdikhdfpcipdbaaGreatDoor.nums Go.Proofs.YtdikhdfpcipdbaaGreatDoor.mem
set_option linter.unusedVariables false
attribute [local go_sem] Oper.semAt_some

end Go.Proofs.YtdikhdfpcipdbaaGreatDoor.tab

/- LiftPart and PushFor of both sides. -/
namespace Go.Proofs.YtdikhdfpcipdbaaGreatDoor.bl
open Go.ChangeShapes Go.WideShapes Go.ChangeAt Go.RowKit
open Go.Proofs.YtdikhdfpcipdbaaGreatDoor.nums Go.Proofs.YtdikhdfpcipdbaaGreatDoor.mem
open Go.Proofs.YtdikhdfpcipdbaaGreatDoor.fix (ret_int ret_bool)
open Go.Proofs.YtdikhdfpcipdbaaGreatDoor.tab (Ret Tab quiet_w)
set_option linter.unusedVariables false

theorem tab_new (w : World) : Tab (w.alloc (Obj.cells #[.int .i64 100, .int .i64 1000, .int .i64 200, .int .i64 0] 250)) w.heap.size T := by
  have h := Has.fresh w 250 #[.int .i64 100, .int .i64 1000, .int .i64 200, .int .i64 0]
  refine ⟨h.lt, fun k hk => ?_⟩
  have : k = 0 ∨ k = 1 := by have : k < 2 := hk; omega
  rcases this with rfl | rfl
  · exact ⟨h.cell 0, h.cell 1⟩
  · exact ⟨h.cell 2, h.cell 3⟩

set_option maxHeartbeats 1000000 in
theorem specLiftPart (x : Int) (w : World) : Calls Tryz.prog 189 #[.int .i64 x] w (Ret (.int .i64 (lp x)) w) := by
  go_enter Tryz.func189, Tryz.ntmps189
  go_wp2_with fail
  refine (tab.specAt_ok w.heap.size 2 T x _ (tab_new w) okT).mono ?_
  rintro e w1 ⟨y, hy, rfl, hg⟩
  obtain rfl := lp_one hy
  clear hy
  go_wp2_with fail
  go_ret
  exact ⟨rfl, gr_trans (World.grownBy_alloc _ _ _) hg⟩

theorem specPushFor (m s : Int) (w : World) :
    Calls Tryz.prog 179 #[.int .i64 m, .int .i64 s] w fun e w' => e = .returned (.int .i64 (push m s)) ∧ w = w' := by
  have f1 := fit_ge s
  have f2 := fit_le s
  by_cases h2 : m = 2
  · subst h2
    rw [push_out]
    go_enter Tryz.func179, Tryz.ntmps179
    go_wp2_with fail
    go_ret
    exact ⟨rfl, rfl⟩
  · by_cases h3 : m = 3
    · subst h3
      clear h2
      go_enter Tryz.func179, Tryz.ntmps179
      go_wp2_with (first
        | (go_at_call 104; refine (fix.specFit _ _).mono ?_; rintro e w' ⟨rfl, rfl⟩)
        | (go_at_call 190; refine (fix.specPlus _ _ _).mono ?_; rintro e w' ⟨rfl, rfl⟩)
        | (go_at_call 44; refine (fix.specBetween _ _ _ _).mono ?_; rintro e w' ⟨rfl, rfl⟩))
      go_ret
      exact ⟨ret_int (push_spec s), rfl⟩
    · rw [push_else s h2 h3]
      have e2 : (m == 2) = false := by simpa using h2
      have e3 : (m == 3) = false := by simpa using h3
      go_enter Tryz.func179, Tryz.ntmps179
      go_wp2_with fail
      go_ret
      exact ⟨rfl, rfl⟩
end Go.Proofs.YtdikhdfpcipdbaaGreatDoor.bl

