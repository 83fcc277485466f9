/- Two tables that hold the same points are told alike. -/
import Derived.Test.YtjnkmmdkpdkalaaTabArg
import Derived.StillTailTactics
namespace Go.Proofs.Ytjnkmmdkpdkalaa.tab
open Go.ChangeShapes Go.WideShapes Go.ChangeAt Go.RowKit
open Go.Proofs.Ytjnkmmdkpdkalaa.nums Go.Proofs.Ytjnkmmdkpdkalaa.mem
set_option linter.unusedVariables false

theorem eqPoint (x y : Int) (w : World) : Calls Try.prog 33 #[.agg #[.int .i64 x, .int .i64 y], .agg #[.int .i64 x, .int .i64 y]] w (Ret (.bool true) w) := by
  go_enter Try.func33, Try.ntmps33
  go_wp2
  go_ret
  exact ⟨rfl, gr_alloc (World.grownBy_alloc _ _ _) _⟩

set_option maxHeartbeats 1000000 in
theorem eqPoints (g g' cap cap' : Nat) (ps : Pts) (w : World) (h : Tab w g ps) (h' : Tab w g' ps) (hl : ps.length ≤ 1048576) :
    Calls Try.prog 20 #[.slice (some ⟨g, 0, none⟩) ps.length cap, .slice (some ⟨g', 0, none⟩) ps.length cap'] w (Ret (.bool true) w) := by
  go_enter Try.func20, Try.ntmps20
  go_wp2
  go_loopw [5] (fun i wr => ∃ k : Nat, k ≤ ps.length ∧ i = .int .i64 k ∧ w.grownBy wr none) (fun i _ => ps.length - (intOf i).toNat)
  case atStart => exact ⟨0, Nat.zero_le _, rfl, gr_refl _ _⟩
  case round =>
    obtain ⟨k, hk, rfl, hg⟩ := hrel
    by_cases hlt : k < ps.length
    · obtain ⟨cx, cy⟩ := (h.kept hg).2 k hlt
      obtain ⟨dx, dy⟩ := (h'.kept hg).2 k hlt
      go_wp2_with fail
      go_still_tail 8, (by kernel_rfl)
      change wpList _ _ _ _ _ wr.drew
      go_wp2_with fail
      refine (eqPoint _ _ _).mono ?_
      rintro e w1 ⟨rfl, hg1⟩
      go_wp2_with fail
      go_roundw
      case rel => exact ⟨k + 1, by omega, by go_num, gr_trans (gr_drewN hg 1) hg1⟩
      case measure => simp [intOf]; omega
    · obtain rfl : k = ps.length := by omega
      go_wp2_with fail
      go_ret
      exact ⟨rfl, hg⟩
end Go.Proofs.Ytjnkmmdkpdkalaa.tab
