/- Chapter 12 on plain numbers: what the wings leave to the fans, what is blended, the push, what is slewed. Nothing here names the program. -/
import Derived.Test.YtdikhdfpcipdbaaGreatDoorTab
import Derived.Lib.Hide
namespace Go.Proofs.YtdikhdfpcipdbaaGreatDoor.bl
open Go.Proofs.YtdikhdfpcipdbaaGreatDoor.nums
set_option linter.unusedVariables false

/-- The table: 100 1000, 200 0. -/
def T : tab.Pts := [(100, 1000), (200, 0)]
theorem okT : tab.OkT T := by
  refine ⟨by decide, by decide, fun k hk => ?_, fun k hk => ?_⟩
  · have : k = 0 ∨ k = 1 := by have : k < 2 := hk; omega
    rcases this with rfl | rfl <;> decide
  · have : k = 0 := by have : k + 1 < 2 := hk; omega
    subst this; decide
/-- What is left to the fans at that speed. -/
def lp (x : Int) : Int := btw (2000 - 10 * x) 0 1000
theorem lp_in (x : Int) : 0 ≤ lp x ∧ lp x ≤ 1000 := by unfold lp btw; omega
theorem lp_slow {x : Int} (h : x ≤ 100) : lp x = 1000 := by unfold lp btw; omega
theorem lp_down (x : Int) : lp (x + 1) ≤ lp x := by unfold lp btw; omega
theorem lp_is (x : Int) : tab.AtIs T x (lp x) := by
  by_cases h1 : x ≤ 100
  · exact .inl ⟨h1, lp_slow h1⟩
  · by_cases h2 : 200 ≤ x
    · exact .inr (.inl ⟨by show (100 : Int) < x; omega, h2, by show lp x = 0; unfold lp btw; omega⟩)
    · refine .inr (.inr ⟨0, by decide, by show (100 : Int) < x; omega, by show (100 : Int) ≤ x; omega, by show x < 200; omega, ?_⟩)
      show lp x = kPlus 1000 (kPart (0 - 1000) (x - 100) (200 - 100))
      have f1 : fit (0 - 1000) = -1000 := fit_same _ (by omega) (by omega)
      have f2 : fit (x - 100) = x - 100 := fit_same _ (by omega) (by omega)
      have e : kPart (0 - 1000) (x - 100) (200 - 100) = fit (-(10 * (x - 100))) := by
        unfold kPart
        rw [if_neg (by omega), f1, f2]
        congr 1
        rw [show (-1000 : Int) * (x - 100) = -(10 * (x - 100)) * (200 - 100) by omega]
        exact Int.mul_tdiv_cancel _ (by omega)
      rw [e]
      unfold lp kPlus fit btw; omega
theorem lp_one {x y : Int} (h : tab.AtIs T x y) : y = lp x := h.one okT (lp_is x)

/-- A part of what is wished for: so much of it as the wings leave. -/
def cutBy (x v : Int) : Int := kPart v (lp x) 1000
theorem cut_eq (x v : Int) : cutBy x v = fit ((fit v * lp x).tdiv 1000) := by
  unfold cutBy kPart
  have := lp_in x
  rw [if_neg (by omega), fit_same (lp x) (by omega) (by omega)]
theorem cut_slow {x v : Int} (h : x ≤ 100) (h1 : -1000000 ≤ v) (h2 : v ≤ 1000000) : cutBy x v = v := by
  rw [cut_eq, lp_slow h, Int.mul_tdiv_cancel _ (by omega), fit_fit, fit_same v h1 h2]
theorem part_le (v l : Int) (h : l.natAbs ≤ 1000) : ((v * l).tdiv 1000).natAbs ≤ v.natAbs := by
  have h4 : v.natAbs * l.natAbs ≤ v.natAbs * 1000 := Nat.mul_le_mul_left _ h
  have h5 : ((v * l).tdiv 1000).natAbs = (v * l).natAbs / (1000 : Int).natAbs := Int.natAbs_tdiv _ _
  rw [Int.natAbs_mul] at h5
  have h6 : (1000 : Int).natAbs = 1000 := rfl
  rw [h6] at h5
  rw [h5]
  exact Nat.le_trans (Nat.div_le_div_right h4) (Nat.le_of_eq (Nat.mul_div_cancel _ (by omega)))
theorem fit_abs (z : Int) (n : Nat) (h : z.natAbs ≤ n) : (fit z).natAbs ≤ n := by unfold fit btw; omega
/-- What is left is no more than was wished for. -/
theorem cut_le (x v : Int) (h1 : -1000000 ≤ v) (h2 : v ≤ 1000000) : (cutBy x v).natAbs ≤ v.natAbs := by
  rw [cut_eq, fit_same v h1 h2]
  have hl := lp_in x
  exact fit_abs _ _ (part_le v (lp x) (by omega))
theorem cut_in (x v : Int) : -1000000 ≤ cutBy x v ∧ cutBy x v ≤ 1000000 := by rw [cut_eq]; exact ⟨fit_ge _, fit_le _⟩

/-- The push of a mode at a speed. -/
def push (m s : Int) : Int := if m = 2 then 1000 else if m = 3 then btw (500 + 10 * (200 - fit s)) 0 1000 else 0
theorem push_out (s : Int) : push 2 s = 1000 := if_pos rfl
theorem push_glide (s : Int) : push 3 s = btw (500 + 10 * (200 - fit s)) 0 1000 := by unfold push; rw [if_neg (by omega), if_pos rfl]
theorem push_else {m : Int} (s : Int) (h2 : m ≠ 2) (h3 : m ≠ 3) : push m s = 0 := by unfold push; rw [if_neg h2, if_neg h3]
theorem push_in (m s : Int) : 0 ≤ push m s ∧ push m s ≤ 1000 := by unfold push btw; split <;> (try split) <;> omega
theorem push_spec (s : Int) : btw (kPlus 500 (10 * (200 - fit s))) 0 1000 = push 3 s := by
  have := fit_ge s
  have := fit_le s
  rw [push_glide]
  generalize fit s = x at *
  unfold kPlus fit btw; omega

/-- One that goes toward another one, but to nothing at once. -/
def one (a b step : Int) : Int := if b = 0 then 0 else kToward a b step
theorem one_zero (a step : Int) : one a 0 step = 0 := rfl
theorem one_else {b : Int} (a step : Int) (h : b ≠ 0) : one a b step = kToward a b step := if_neg h
theorem toward_in {a b step : Int} (h1 : 0 ≤ a ∧ a ≤ 1000) (h2 : 0 ≤ b ∧ b ≤ 1000) : 0 ≤ kToward a b step ∧ kToward a b step ≤ 1000 := by
  unfold kToward
  rw [fit_same a (by omega) (by omega), fit_same b (by omega) (by omega)]
  unfold btw; omega
theorem one_in {a b step : Int} (h1 : 0 ≤ a ∧ a ≤ 1000) (h2 : 0 ≤ b ∧ b ≤ 1000) : 0 ≤ one a b step ∧ one a b step ≤ 1000 := by
  unfold one
  split
  · omega
  · exact toward_in h1 h2
theorem one_step {a b step : Int} (h1 : 0 ≤ a ∧ a ≤ 1000) (h2 : 0 ≤ b ∧ b ≤ 1000) (hs : 0 ≤ step) (hb : b ≠ 0) : max (one a b step - a) (-(one a b step - a)) ≤ step := by
  rw [one_else _ _ hb]
  unfold kToward
  rw [fit_same a (by omega) (by omega), fit_same b (by omega) (by omega)]
  unfold btw; omega
theorem one_near {a b step : Int} (h1 : 0 ≤ a ∧ a ≤ 1000) (h2 : 0 ≤ b ∧ b ≤ 1000) : max (b - one a b step) (-(b - one a b step)) ≤ max (b - a) (-(b - a)) := by
  unfold one kToward
  rw [fit_same a (by omega) (by omega), fit_same b (by omega) (by omega)]
  split
  · omega
  · unfold btw; omega
end Go.Proofs.YtdikhdfpcipdbaaGreatDoor.bl
