/- Contracts of chapter 1, continued: Plus, Part, Toward, Apart of the program and of the model. -/
import Derived.Test.YtnkimjmpjnhlnaaFix
import Derived.Lib.Hide
namespace Go.Proofs.Ytnkimjmpjnhlnaa.fix
open Go.ChangeShapes Go.WideShapes Go.ChangeAt Go.RowKit
open Go.Proofs.Ytnkimjmpjnhlnaa.nums
set_option linter.unusedVariables false

theorem toward_eq (x to step : Int) : kToward x to step = btw (fit to) (fit x - btw step 0 2000000) (fit x + btw step 0 2000000) := by
  have a1 := fit_ge x; have a2 := fit_le x; have b1 := fit_ge to; have b2 := fit_le to
  unfold kToward btw; omega

def gap (s o : Int) : Int := fit (max s o - min s o)
theorem gap_eq (a b : Int) : gap (fit a) (fit b) = kApart a b := by
  have a1 := fit_ge a; have a2 := fit_le a; have b1 := fit_ge b; have b2 := fit_le b
  unfold gap kApart
  generalize fit a = x at *
  generalize fit b = y at *
  unfold fit btw; omega

theorem part_zero {a b c : Int} (h : c = 0 ∨ c < -1000000 ∨ 1000000 < c) : kPart a b c = 0 := if_pos h
theorem part_else {a b c : Int} (h : ¬ (c = 0 ∨ c < -1000000 ∨ 1000000 < c)) : kPart a b c = fit ((fit a * fit b).tdiv c) := if_neg h
theorem tdiv_bd (m c : Int) (h1 : -1000000000000 ≤ m) (h2 : m ≤ 1000000000000) : -1000000000000 ≤ m.tdiv c ∧ m.tdiv c ≤ 1000000000000 := by
  have := Int.natAbs_tdiv_le_natAbs m c
  omega

end Go.Proofs.Ytnkimjmpjnhlnaa.fix
