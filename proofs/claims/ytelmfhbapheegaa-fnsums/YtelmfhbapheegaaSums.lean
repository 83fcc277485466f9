/- What the law of small sums says of plain integers. -/
import Derived.Test.YtelmfhbapheegaaRoot
import Derived.Test.YtelmfhbapheegaaCur2
namespace Go.Proofs.Ytelmfhbapheegaa.sums
open Go.RowKit Go.Proofs.Ytelmfhbapheegaa.nums
set_option linter.unusedVariables false

def kAbs (n : Int) : Int := if n < 0 then -n else n
theorem abs (n : Int) (w : World) (h1 : -9000000000000000000 ≤ n) (h2 : n ≤ 9000000000000000000) :
    Calls Try.prog 28 #[.int .i64 n] w fun e w' => e = .returned (.int .i64 (kAbs n)) ∧ w = w' := by
  go_enter Try.func28, Try.ntmps28
  go_wp2
  all_goals go_ret
  all_goals exact ⟨fix.ret_int (by unfold kAbs; simp; try omega), rfl⟩

theorem size_plus (a b : Int) : inb (kPlus a b) (-1000000) 1000000 = true := by
  have h1 := fit_ge (fit a + fit b); have h2 := fit_le (fit a + fit b)
  unfold inb kPlus; simp; omega
theorem size_part (a b c : Int) : inb (kPart a b c) (-1000000) 1000000 = true := by
  have h1 := fit_ge ((fit a * fit b).tdiv c); have h2 := fit_le ((fit a * fit b).tdiv c)
  unfold inb kPart; split <;> simp <;> omega
theorem size_toward (a b c : Int) : inb (kToward a b c) (-1000000) 1000000 = true := by
  have h1 := fit_ge a; have h2 := fit_le a; have h3 := fit_ge b; have h4 := fit_le b
  unfold inb kToward btw; simp; omega
theorem size_apart (a b : Int) : inb (kApart a b) (-1000000) 1000000 = true := by
  have h1 := fit_ge a; have h2 := fit_le a; have h3 := fit_ge b; have h4 := fit_le b
  unfold inb kApart; simp; omega
theorem apart_nonneg (a b : Int) : 0 ≤ kApart a b := by unfold kApart; omega
theorem plus_comm (a b : Int) : kPlus b a = kPlus a b := by unfold kPlus; rw [Int.add_comm]
theorem apart_comm (a b : Int) : kApart b a = kApart a b := by unfold kApart; omega
theorem inb_iff (x l h : Int) : inb x l h = true ↔ l ≤ x ∧ x ≤ h := by unfold inb; simp
theorem plus_same (a b : Int) (ha : inb a (-1000000) 1000000 = true) (hb : inb b (-1000000) 1000000 = true) (hab : inb (a + b) (-1000000) 1000000 = true) : kPlus a b = a + b := by
  rw [inb_iff] at ha hb hab
  unfold kPlus fit btw; omega
theorem toward_still (y to s : Int) (hy : inb y (-1000000) 1000000 = true) (hs : s < 0) : kToward y to s = y := by
  rw [inb_iff] at hy
  unfold kToward fit btw; omega
theorem toward_near (y to s : Int) (hy : inb y (-1000000) 1000000 = true) (hs : ¬ s < 0) : kAbs (kToward y to s - y) ≤ s := by
  rw [inb_iff] at hy
  unfold kAbs kToward fit btw; split <;> omega
theorem toward_there (y to s : Int) (hy : inb y (-1000000) 1000000 = true) (ht : inb to (-1000000) 1000000 = true) (hs : ¬ s < 0) (h : kToward y to s ≠ to) : kAbs (to - kToward y to s) = kAbs (to - y) - s := by
  rw [inb_iff] at hy ht
  unfold kAbs kToward fit btw at *; split <;> split <;> omega
theorem btw_ge (x l h : Int) (hl : l ≤ h) : l ≤ btw x l h := by unfold btw; omega
theorem btw_le (x l h : Int) : btw x l h ≤ h := by unfold btw; omega
end Go.Proofs.Ytelmfhbapheegaa.sums
