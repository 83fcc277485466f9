/- Chapter 8: ranges: the plain triples, RangeOk of the model and of the program, what came in. -/
import Derived.Test.YtdikhdfpcipdbaaGreatDoorTabArg
import Derived.Laws.Small
import Derived.Laws.Entries
import Derived.ChangeSame
import Derived.Deep.Strs
import Derived.StillTailTactics
import Derived.Deep.RegionHeld3
import Derived.WalkMore
namespace Go.Proofs.YtdikhdfpcipdbaaGreatDoor.sane
open Go.ChangeShapes Go.WideShapes Go.ChangeAt Go.RowKit
open Go.Proofs.YtdikhdfpcipdbaaGreatDoor.nums Go.Proofs.YtdikhdfpcipdbaaGreatDoor.mem
open Go.Proofs.YtdikhdfpcipdbaaGreatDoor.tab (Ret quiet_w wpList_make_has)
set_option linter.unusedVariables false

/-- A range is right. -/
def okG (lo hi ra : Int) : Bool := inb lo (-1000000) 1000000 && (inb hi (-1000000) 1000000 && (decide (lo ≤ hi) && inb ra 1 1000000))
theorem okG_iff {lo hi ra : Int} : okG lo hi ra = true ↔ (-1000000 ≤ lo ∧ lo ≤ 1000000) ∧ (-1000000 ≤ hi ∧ hi ≤ 1000000) ∧ lo ≤ hi ∧ 1 ≤ ra ∧ ra ≤ 1000000 := by
  unfold okG inb; simp
theorem okG_no {lo hi ra : Int} (h : ¬ ((-1000000 ≤ lo ∧ lo ≤ 1000000) ∧ (-1000000 ≤ hi ∧ hi ≤ 1000000) ∧ lo ≤ hi ∧ 1 ≤ ra ∧ ra ≤ 1000000)) : okG lo hi ra = false := by
  cases hk : okG lo hi ra with
  | false => rfl
  | true => exact absurd (okG_iff.1 hk) h
theorem inb_iff {x l h : Int} : inb x l h = true ↔ l ≤ x ∧ x ≤ h := by unfold inb; simp
theorem inb_no {x l h : Int} : inb x l h = false ↔ ¬ (l ≤ x ∧ x ≤ h) := by
  rw [← inb_iff]; simp

set_option maxHeartbeats 1000000 in
theorem specRangeOk (lo hi ra : Int) (w : World) : Calls Tryz.prog 101 #[.agg #[.int .i64 lo, .int .i64 hi, .int .i64 ra]] w (Ret (.bool (okG lo hi ra)) w) := by
  rcases Bool.eq_false_or_eq_true (inb lo (-1000000) 1000000) with h0 | h0
  rotate_left
  · go_enter Tryz.func101, Tryz.ntmps101
    go_wp2_with (first | (go_at_call 78; refine (fix.specSizeOk _ _).mono ?_; rintro e w' ⟨rfl, rfl⟩) | (go_at_call 24; refine (fix.specIn _ _ _ _).mono ?_; rintro e w' ⟨rfl, rfl⟩))
    go_ret
    exact ⟨fix.ret_bool (by unfold okG; simp [h0]), World.grownBy_alloc _ _ _⟩
  rcases Bool.eq_false_or_eq_true (inb hi (-1000000) 1000000) with h1 | h1
  rotate_left
  · go_enter Tryz.func101, Tryz.ntmps101
    go_wp2_with (first | (go_at_call 78; refine (fix.specSizeOk _ _).mono ?_; rintro e w' ⟨rfl, rfl⟩) | (go_at_call 24; refine (fix.specIn _ _ _ _).mono ?_; rintro e w' ⟨rfl, rfl⟩))
    go_ret
    exact ⟨fix.ret_bool (by unfold okG; simp [h0, h1]), World.grownBy_alloc _ _ _⟩
  rcases Bool.eq_false_or_eq_true (decide (lo ≤ hi)) with h2 | h2
  rotate_left
  · go_enter Tryz.func101, Tryz.ntmps101
    go_wp2_with (first | (go_at_call 78; refine (fix.specSizeOk _ _).mono ?_; rintro e w' ⟨rfl, rfl⟩) | (go_at_call 24; refine (fix.specIn _ _ _ _).mono ?_; rintro e w' ⟨rfl, rfl⟩))
    go_ret
    exact ⟨fix.ret_bool (by unfold okG; simp [h0, h1, h2]), World.grownBy_alloc _ _ _⟩
  · go_enter Tryz.func101, Tryz.ntmps101
    go_wp2_with (first | (go_at_call 78; refine (fix.specSizeOk _ _).mono ?_; rintro e w' ⟨rfl, rfl⟩) | (go_at_call 24; refine (fix.specIn _ _ _ _).mono ?_; rintro e w' ⟨rfl, rfl⟩))
    go_ret
    exact ⟨fix.ret_bool (by unfold okG; simp [h0, h1, h2]), World.grownBy_alloc _ _ _⟩

theorem okG_other (lo hi ra : Int) : okG lo hi ra = (inb lo (-1000000) 1000000 && (inb hi (-1000000) 1000000 && (inb ra (-1000000) 1000000 && (decide (lo ≤ hi) && decide (ra ≥ 1))))) := by
  apply Bool.eq_iff_iff.2
  rw [okG_iff]
  simp only [inb, Bool.and_eq_true, decide_eq_true_eq]
  omega
set_option maxHeartbeats 1000000 in
theorem implRangeOk (lo hi ra : Int) (w : World) : Calls Tryz.prog 124 #[.agg #[.int .i64 lo, .int .i64 hi, .int .i64 ra]] w (Ret (.bool (okG lo hi ra)) w) := by
  rcases Bool.eq_false_or_eq_true (inb lo (-1000000) 1000000) with h0 | h0
  rotate_left
  · go_enter Tryz.func124, Tryz.ntmps124
    go_wp2_with (go_at_call 55; refine (fix.implSizeOk _ _).mono ?_; rintro e w' ⟨rfl, rfl⟩)
    go_ret
    exact ⟨fix.ret_bool (by rw [okG_other]; simp [h0]), World.grownBy_alloc _ _ _⟩
  rcases Bool.eq_false_or_eq_true (inb hi (-1000000) 1000000) with h1 | h1
  rotate_left
  · go_enter Tryz.func124, Tryz.ntmps124
    go_wp2_with (go_at_call 55; refine (fix.implSizeOk _ _).mono ?_; rintro e w' ⟨rfl, rfl⟩)
    go_ret
    exact ⟨fix.ret_bool (by rw [okG_other]; simp [h0, h1]), World.grownBy_alloc _ _ _⟩
  rcases Bool.eq_false_or_eq_true (inb ra (-1000000) 1000000) with h3 | h3
  rotate_left
  · go_enter Tryz.func124, Tryz.ntmps124
    go_wp2_with (go_at_call 55; refine (fix.implSizeOk _ _).mono ?_; rintro e w' ⟨rfl, rfl⟩)
    go_ret
    exact ⟨fix.ret_bool (by rw [okG_other]; simp [h0, h1, h3]), World.grownBy_alloc _ _ _⟩
  rcases Bool.eq_false_or_eq_true (decide (lo ≤ hi)) with h2 | h2
  rotate_left
  · go_enter Tryz.func124, Tryz.ntmps124
    go_wp2_with (go_at_call 55; refine (fix.implSizeOk _ _).mono ?_; rintro e w' ⟨rfl, rfl⟩)
    go_ret
    exact ⟨fix.ret_bool (by rw [okG_other]; simp [h0, h1, h3, h2]), World.grownBy_alloc _ _ _⟩
  rcases Bool.eq_false_or_eq_true (decide (ra ≥ 1)) with h4 | h4
  rotate_left
  · go_enter Tryz.func124, Tryz.ntmps124
    go_wp2_with (go_at_call 55; refine (fix.implSizeOk _ _).mono ?_; rintro e w' ⟨rfl, rfl⟩)
    go_ret
    exact ⟨fix.ret_bool (by rw [okG_other]; simp [h0, h1, h3, h2, h4]), World.grownBy_alloc _ _ _⟩
  · go_enter Tryz.func124, Tryz.ntmps124
    go_wp2_with (go_at_call 55; refine (fix.implSizeOk _ _).mono ?_; rintro e w' ⟨rfl, rfl⟩)
    go_ret
    exact ⟨fix.ret_bool (by rw [okG_other]; simp [h0, h1, h3, h2, h4]), World.grownBy_alloc _ _ _⟩

/-- It returns this range; of what was there nothing is another. -/
def RetG (lo hi ra : Int) (w : World) (e : Ending) (w' : World) : Prop := e = .returned (.agg #[.int .i64 lo, .int .i64 hi, .int .i64 ra]) ∧ w.grownBy w' none

end Go.Proofs.YtdikhdfpcipdbaaGreatDoor.sane
