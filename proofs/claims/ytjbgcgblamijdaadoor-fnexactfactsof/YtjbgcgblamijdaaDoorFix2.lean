/- Contracts of chapter 1, continued: Plus, Part, Toward, Apart of the program and of the model. -/
import Derived.Test.YtjbgcgblamijdaaDoorFix
import Derived.Lib.Hide
namespace Go.Proofs.YtjbgcgblamijdaaDoor.fix
open Go.ChangeShapes Go.WideShapes Go.ChangeAt Go.RowKit
open Go.Proofs.YtjbgcgblamijdaaDoor.nums
set_option linter.unusedVariables false

theorem toward_eq (x to step : Int) : kToward x to step = btw (fit to) (fit x - btw step 0 2000000) (fit x + btw step 0 2000000) := by
  have a1 := fit_ge x; have a2 := fit_le x; have b1 := fit_ge to; have b2 := fit_le to
  unfold kToward btw; omega

theorem specApart (a b : Int) (w : World) :
    Calls Tryd.prog 53 #[.int .i64 a, .int .i64 b] w fun e w' => e = .returned (.int .i64 (kApart a b)) ∧ w = w' := by
  have a1 := fit_ge a; have a2 := fit_le a; have b1 := fit_ge b; have b2 := fit_le b
  go_enter Tryd.func53, Tryd.ntmps53
  go_wp2_with (first | (go_at_call 64; refine (specFit _ _).mono ?_; rintro e w' ⟨rfl, rfl⟩) | (go_at_call 54; refine (specMax _ _ _).mono ?_; rintro e w' ⟨rfl, rfl⟩) | (go_at_call 52; refine (specMin _ _ _).mono ?_; rintro e w' ⟨rfl, rfl⟩))
  go_ret
  exact ⟨rfl, rfl⟩

def gap (s o : Int) : Int := fit (max s o - min s o)
theorem implSizeApart (a b : Int) (w : World) (ha1 : -1000000 ≤ a) (ha2 : a ≤ 1000000) (hb1 : -1000000 ≤ b) (hb2 : b ≤ 1000000) :
    Calls Tryd.prog 70 #[.int .i64 a, .int .i64 b] w fun e w' => e = .returned (.int .i64 (gap a b)) ∧ w = w' := by
  go_enter Tryd.func70, Tryd.ntmps70
  go_wp2_with (go_at_call 69; refine (implSized _ _).mono ?_; rintro e w' ⟨rfl, rfl⟩)
  all_goals go_ret
  all_goals exact ⟨ret_int (by unfold gap; congr 1; omega), rfl⟩

theorem implWithApart (s n : Int) (w : World) (h1 : -1000000 ≤ s) (h2 : s ≤ 1000000) :
    Calls Tryd.prog 68 #[.func (Fn.func 70) #[.int .i64 s] #[], .int .i64 n] w fun e w' => e = .returned (.int .i64 (gap s (fit n))) ∧ w = w' := by
  have b1 := fit_ge n; have b2 := fit_le n
  go_enter Tryd.func68, Tryd.ntmps68
  go_wp2_with (first
    | (go_at_call 69; refine (implSized _ _).mono ?_; rintro e w' ⟨rfl, rfl⟩)
    | (go_at_call 70; refine (implSizeApart _ _ _ h1 h2 b1 b2).mono ?_; rintro e w' ⟨rfl, rfl⟩))
  go_ret
  exact ⟨rfl, rfl⟩

theorem gap_eq (a b : Int) : gap (fit a) (fit b) = kApart a b := by
  have a1 := fit_ge a; have a2 := fit_le a; have b1 := fit_ge b; have b2 := fit_le b
  unfold gap kApart
  generalize fit a = x at *
  generalize fit b = y at *
  unfold fit btw; omega

theorem implApart (a b : Int) (w : World) :
    Calls Tryd.prog 58 #[.int .i64 a, .int .i64 b] w fun e w' => e = .returned (.int .i64 (kApart a b)) ∧ w = w' := by
  have a1 := fit_ge a; have a2 := fit_le a; have b1 := fit_ge b; have b2 := fit_le b
  go_enter Tryd.func58, Tryd.ntmps58
  go_wp2_with (first
    | (go_at_call 69; refine (implSized _ _).mono ?_; rintro e w' ⟨rfl, rfl⟩)
    | (go_at_call 68; refine (implWithApart _ _ _ a1 a2).mono ?_; rintro e w' ⟨rfl, rfl⟩))
  go_ret
  exact ⟨ret_int (gap_eq a b), rfl⟩

theorem part_zero {a b c : Int} (h : c = 0 ∨ c < -1000000 ∨ 1000000 < c) : kPart a b c = 0 := if_pos h
theorem part_else {a b c : Int} (h : ¬ (c = 0 ∨ c < -1000000 ∨ 1000000 < c)) : kPart a b c = fit ((fit a * fit b).tdiv c) := if_neg h
theorem tdiv_bd (m c : Int) (h1 : -1000000000000 ≤ m) (h2 : m ≤ 1000000000000) : -1000000000000 ≤ m.tdiv c ∧ m.tdiv c ≤ 1000000000000 := by
  have := Int.natAbs_tdiv_le_natAbs m c
  omega

end Go.Proofs.YtjbgcgblamijdaaDoor.fix
