/- LiftPart and PushFor of both sides. -/
import Derived.Test.YtgclhjfjoiiclaaBl
import Derived.Test.YtgclhjfjoiiclaaTabSpec2
import Derived.Test.YtgclhjfjoiiclaaTabImpl5
namespace Go.Proofs.Ytgclhjfjoiiclaa.bl
open Go.ChangeShapes Go.WideShapes Go.ChangeAt Go.RowKit
open Go.Proofs.Ytgclhjfjoiiclaa.nums Go.Proofs.Ytgclhjfjoiiclaa.mem
open Go.Proofs.Ytgclhjfjoiiclaa.fix (ret_int ret_bool)
open Go.Proofs.Ytgclhjfjoiiclaa.tab (Ret Tab quiet_w)
set_option linter.unusedVariables false

theorem tab_new (w : World) : Tab (w.alloc (Obj.cells #[.int .i64 100, .int .i64 1000, .int .i64 200, .int .i64 0] 55)) w.heap.size T := by
  have h := Has.fresh w 55 #[.int .i64 100, .int .i64 1000, .int .i64 200, .int .i64 0]
  refine ⟨h.lt, fun k hk => ?_⟩
  have : k = 0 ∨ k = 1 := by have : k < 2 := hk; omega
  rcases this with rfl | rfl
  · exact ⟨h.cell 0, h.cell 1⟩
  · exact ⟨h.cell 2, h.cell 3⟩

set_option maxHeartbeats 1000000 in
theorem implLiftPart (x : Int) (w : World) : Calls Try.prog 12 #[.int .i64 x] w (Ret (.int .i64 (lp x)) w) := by
  go_enter Try.func12, Try.ntmps12
  go_wp2_with fail
  refine (tab.implAt_ok w.heap.size 2 T x _ (tab_new w) okT).mono ?_
  rintro e w1 ⟨y, hy, rfl, hg⟩
  obtain rfl := lp_one hy
  clear hy
  go_wp2_with fail
  go_ret
  exact ⟨rfl, gr_trans (World.grownBy_alloc _ _ _) hg⟩

set_option maxHeartbeats 1000000 in
theorem specLiftPart (x : Int) (w : World) : Calls Try.prog 16 #[.int .i64 x] w (Ret (.int .i64 (lp x)) w) := by
  go_enter Try.func16, Try.ntmps16
  go_wp2_with fail
  refine (tab.specAt_ok w.heap.size 2 T x _ (tab_new w) okT).mono ?_
  rintro e w1 ⟨y, hy, rfl, hg⟩
  obtain rfl := lp_one hy
  clear hy
  go_wp2_with fail
  go_ret
  exact ⟨rfl, gr_trans (World.grownBy_alloc _ _ _) hg⟩

theorem implPushFor (m s : Int) (w : World) :
    Calls Try.prog 14 #[.int .i64 m, .int .i64 s] w fun e w' => e = .returned (.int .i64 (push m s)) ∧ w = w' := by
  have f1 := fit_ge s
  have f2 := fit_le s
  by_cases h2 : m = 2
  · subst h2
    rw [push_out]
    go_enter Try.func14, Try.ntmps14
    go_wp2_with fail
    go_ret
    exact ⟨rfl, rfl⟩
  · by_cases h3 : m = 3
    · subst h3
      rw [push_glide]
      clear h2
      go_enter Try.func14, Try.ntmps14
      go_wp2_with (first
        | (go_at_call 40; refine (fix.implSized _ _).mono ?_; rintro e w' ⟨rfl, rfl⟩)
        | (go_at_call 41; refine (fix.implBetween _ _ _ _).mono ?_; rintro e w' ⟨rfl, rfl⟩))
      go_ret
      exact ⟨rfl, rfl⟩
    · rw [push_else s h2 h3]
      have e2 : (m == 2) = false := by simpa using h2
      have e3 : (m == 3) = false := by simpa using h3
      go_enter Try.func14, Try.ntmps14
      go_wp2_with fail
      go_ret
      exact ⟨rfl, rfl⟩

theorem specPushFor (m s : Int) (w : World) :
    Calls Try.prog 17 #[.int .i64 m, .int .i64 s] w fun e w' => e = .returned (.int .i64 (push m s)) ∧ w = w' := by
  have f1 := fit_ge s
  have f2 := fit_le s
  by_cases h2 : m = 2
  · subst h2
    rw [push_out]
    go_enter Try.func17, Try.ntmps17
    go_wp2_with fail
    go_ret
    exact ⟨rfl, rfl⟩
  · by_cases h3 : m = 3
    · subst h3
      clear h2
      go_enter Try.func17, Try.ntmps17
      go_wp2_with (first
        | (go_at_call 47; refine (fix.specFit _ _).mono ?_; rintro e w' ⟨rfl, rfl⟩)
        | (go_at_call 46; refine (fix.specPlus _ _ _).mono ?_; rintro e w' ⟨rfl, rfl⟩)
        | (go_at_call 45; refine (fix.specBetween _ _ _ _).mono ?_; rintro e w' ⟨rfl, rfl⟩))
      go_ret
      exact ⟨ret_int (push_spec s), rfl⟩
    · rw [push_else s h2 h3]
      have e2 : (m == 2) = false := by simpa using h2
      have e3 : (m == 3) = false := by simpa using h3
      go_enter Try.func17, Try.ntmps17
      go_wp2_with fail
      go_ret
      exact ⟨rfl, rfl⟩
end Go.Proofs.Ytgclhjfjoiiclaa.bl
