/- Plain integers: what the small sums of chapter 1 come to. Nothing here names the program. -/
import Derived.WalkKit
namespace Go.Proofs.YtdikhdfpcipdbaaGreatDoor.nums

def btw (x l h : Int) : Int := min (max x l) h
def fit (x : Int) : Int := btw x (-1000000) 1000000
def inb (x l h : Int) : Bool := decide (l ≤ x) && decide (x ≤ h)
def kPlus (a b : Int) : Int := fit (fit a + fit b)
def kPart (a b c : Int) : Int := if c = 0 ∨ c < -1000000 ∨ 1000000 < c then 0 else fit ((fit a * fit b).tdiv c)
def kToward (x to step : Int) : Int := fit x + btw (fit to - fit x) (-(max 0 step)) (max 0 step)
def kApart (a b : Int) : Int := min 1000000 (max (fit a - fit b) (-(fit a - fit b)))

theorem fit_ge (x : Int) : -1000000 ≤ fit x := by unfold fit btw; omega
theorem fit_le (x : Int) : fit x ≤ 1000000 := by unfold fit btw; omega
theorem fit_same (x : Int) (h1 : -1000000 ≤ x) (h2 : x ≤ 1000000) : fit x = x := by unfold fit btw; omega
theorem fit_fit (x : Int) : fit (fit x) = fit x := fit_same _ (fit_ge x) (fit_le x)

theorem mul_bd {a b m n : Int} (ha1 : -m ≤ a) (ha2 : a ≤ m) (hb1 : -n ≤ b) (hb2 : b ≤ n) : -(m * n) ≤ a * b ∧ a * b ≤ m * n := by
  have hm : 0 ≤ m := by omega
  have hn : 0 ≤ n := by omega
  have h1 : a.natAbs ≤ m.natAbs := by omega
  have h2 : b.natAbs ≤ n.natAbs := by omega
  have h3 : (a * b).natAbs ≤ m.natAbs * n.natAbs := by rw [Int.natAbs_mul]; exact Nat.mul_le_mul h1 h2
  have h4 : ((m.natAbs * n.natAbs : Nat) : Int) = m * n := by
    rw [Int.natCast_mul, Int.natAbs_of_nonneg hm, Int.natAbs_of_nonneg hn]
  omega
theorem fit_mul (a b : Int) : -1000000000000 ≤ fit a * fit b ∧ fit a * fit b ≤ 1000000000000 := by
  have := mul_bd (fit_ge a) (fit_le a) (fit_ge b) (fit_le b)
  simpa using this
end Go.Proofs.YtdikhdfpcipdbaaGreatDoor.nums
