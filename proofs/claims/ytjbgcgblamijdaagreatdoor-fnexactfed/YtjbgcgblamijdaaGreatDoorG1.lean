/- Plain integers: what the small sums of chapter 1 come to. Nothing here names the program. Contracts of chapter 1's small sums, of the program's functions and of the model's: each returns what one plain function on integers gives, and leaves the world. -/
import Derived.WalkKit
import Derived.Test.YtjbgcgblamijdaaGreatDoorRows
import Derived.ProofKit
import Derived.OpenShut
import Derived.IntWalk
/- Plain integers: what the small sums of chapter 1 come to. Nothing here names the program. -/
namespace Go.Proofs.YtjbgcgblamijdaaGreatDoor.nums

def btw (x l h : Int) : Int := min (max x l) h
def fit (x : Int) : Int := btw x (-1000000) 1000000
def inb (x l h : Int) : Bool := decide (l ≤ x) && decide (x ≤ h)
def kPlus (a b : Int) : Int := fit (fit a + fit b)
def kPart (a b c : Int) : Int := if c = 0 ∨ c < -1000000 ∨ 1000000 < c then 0 else fit ((fit a * fit b).tdiv c)
def kToward (x to step : Int) : Int := fit x + btw (fit to - fit x) (-(max 0 step)) (max 0 step)
def kApart (a b : Int) : Int := min 1000000 (max (fit a - fit b) (-(fit a - fit b)))

theorem fit_ge (x : Int) : -1000000 ≤ fit x := by unfold fit btw; omega
theorem fit_le (x : Int) : fit x ≤ 1000000 := by unfold fit btw; omega
theorem fit_same (x : Int) (h1 : -1000000 ≤ x) (h2 : x ≤ 1000000) : fit x = x := by unfold fit btw; omega
theorem fit_fit (x : Int) : fit (fit x) = fit x := fit_same _ (fit_ge x) (fit_le x)

theorem mul_bd {a b m n : Int} (ha1 : -m ≤ a) (ha2 : a ≤ m) (hb1 : -n ≤ b) (hb2 : b ≤ n) : -(m * n) ≤ a * b ∧ a * b ≤ m * n := by
  have hm : 0 ≤ m := by omega
  have hn : 0 ≤ n := by omega
  have h1 : a.natAbs ≤ m.natAbs := by omega
  have h2 : b.natAbs ≤ n.natAbs := by omega
  have h3 : (a * b).natAbs ≤ m.natAbs * n.natAbs := by rw [Int.natAbs_mul]; exact Nat.mul_le_mul h1 h2
  have h4 : ((m.natAbs * n.natAbs : Nat) : Int) = m * n := by
    rw [Int.natCast_mul, Int.natAbs_of_nonneg hm, Int.natAbs_of_nonneg hn]
  omega
theorem fit_mul (a b : Int) : -1000000000000 ≤ fit a * fit b ∧ fit a * fit b ≤ 1000000000000 := by
  have := mul_bd (fit_ge a) (fit_le a) (fit_ge b) (fit_le b)
  simpa using this
end Go.Proofs.YtjbgcgblamijdaaGreatDoor.nums

/- Contracts of chapter 1's small sums, of the program's functions and of the model's: each returns what one plain function on integers gives, and leaves the world. -/
namespace Go.Proofs.YtjbgcgblamijdaaGreatDoor.fix
open Go.ChangeShapes Go.WideShapes Go.ChangeAt Go.RowKit
open Go.Proofs.YtjbgcgblamijdaaGreatDoor.nums
set_option linter.unusedVariables false

theorem ret_int {k : IntKind} {a b : Int} (h : a = b) : Ending.returned (.int k a) = .returned (.int k b) := by rw [h]
theorem ret_bool {a b : Bool} (h : a = b) : Ending.returned (.bool a) = .returned (.bool b) := by rw [h]

theorem implBetween (x l h : Int) (w : World) :
    Calls Tryz.prog 44 #[.int .i64 x, .int .i64 l, .int .i64 h] w fun e w' => e = .returned (.int .i64 (btw x l h)) ∧ w = w' := by
  go_enter Tryz.func44, Tryz.ntmps44
  go_wp2
  all_goals go_ret
  all_goals exact ⟨ret_int (by unfold btw; omega), rfl⟩

theorem specMin (a b : Int) (w : World) :
    Calls Tryz.prog 102 #[.int .i64 a, .int .i64 b] w fun e w' => e = .returned (.int .i64 (min a b)) ∧ w = w' := by
  go_enter Tryz.func102, Tryz.ntmps102
  go_wp2
  all_goals go_ret
  all_goals exact ⟨ret_int (by omega), rfl⟩

theorem specMax (a b : Int) (w : World) :
    Calls Tryz.prog 36 #[.int .i64 a, .int .i64 b] w fun e w' => e = .returned (.int .i64 (max a b)) ∧ w = w' := by
  go_enter Tryz.func36, Tryz.ntmps36
  go_wp2
  all_goals go_ret
  all_goals exact ⟨ret_int (by omega), rfl⟩

theorem specBetween (x l h : Int) (w : World) :
    Calls Tryz.prog 54 #[.int .i64 x, .int .i64 l, .int .i64 h] w fun e w' => e = .returned (.int .i64 (btw x l h)) ∧ w = w' := by
  go_enter Tryz.func54, Tryz.ntmps54
  go_wp2_with fail
  refine (specMax x l _).mono ?_
  rintro e w' ⟨rfl, rfl⟩
  go_wp2_with fail
  refine (specMin _ h _).mono ?_
  rintro e w' ⟨rfl, rfl⟩
  go_wp2_with fail
  all_goals go_ret
  all_goals exact ⟨rfl, rfl⟩

theorem specFit (x : Int) (w : World) :
    Calls Tryz.prog 129 #[.int .i64 x] w fun e w' => e = .returned (.int .i64 (fit x)) ∧ w = w' := by
  go_enter Tryz.func129, Tryz.ntmps129
  go_wp2_with fail
  refine (specBetween x _ _ _).mono ?_
  rintro e w' ⟨rfl, rfl⟩
  go_wp2_with fail
  all_goals go_ret
  all_goals exact ⟨rfl, rfl⟩

theorem implSized (x : Int) (w : World) :
    Calls Tryz.prog 124 #[.int .i64 x] w fun e w' => e = .returned (.int .i64 (fit x)) ∧ w = w' := by
  go_enter Tryz.func124, Tryz.ntmps124
  go_wp2_with fail
  refine (implBetween x _ _ _).mono ?_
  rintro e w' ⟨rfl, rfl⟩
  go_wp2_with fail
  all_goals go_ret
  all_goals exact ⟨rfl, rfl⟩

theorem specIn (x l h : Int) (w : World) :
    Calls Tryz.prog 34 #[.int .i64 x, .int .i64 l, .int .i64 h] w fun e w' => e = .returned (.bool (inb x l h)) ∧ w = w' := by
  go_enter Tryz.func34, Tryz.ntmps34
  go_wp2
  all_goals go_ret
  all_goals exact ⟨ret_bool (by unfold inb; simp <;> omega), rfl⟩

theorem specSizeOk (x : Int) (w : World) :
    Calls Tryz.prog 101 #[.int .i64 x] w fun e w' => e = .returned (.bool (inb x (-1000000) 1000000)) ∧ w = w' := by
  go_enter Tryz.func101, Tryz.ntmps101
  go_wp2_with fail
  refine (specIn x _ _ _).mono ?_
  rintro e w' ⟨rfl, rfl⟩
  go_wp2_with fail
  all_goals go_ret
  all_goals exact ⟨rfl, rfl⟩

theorem implSizeOk (x : Int) (w : World) :
    Calls Tryz.prog 65 #[.int .i64 x] w fun e w' => e = .returned (.bool (inb x (-1000000) 1000000)) ∧ w = w' := by
  go_enter Tryz.func65, Tryz.ntmps65
  go_wp2
  all_goals go_ret
  all_goals exact ⟨ret_bool (by unfold inb; simp <;> omega), rfl⟩

end Go.Proofs.YtjbgcgblamijdaaGreatDoor.fix

