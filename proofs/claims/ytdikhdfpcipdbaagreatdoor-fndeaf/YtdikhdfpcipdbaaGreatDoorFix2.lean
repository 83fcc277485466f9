/- Contracts of chapter 1, continued: Plus, Part, Toward, Apart of the program and of the model. -/
import Derived.Test.YtdikhdfpcipdbaaGreatDoorFix
import Derived.Lib.Hide
namespace Go.Proofs.YtdikhdfpcipdbaaGreatDoor.fix
open Go.ChangeShapes Go.WideShapes Go.ChangeAt Go.RowKit
open Go.Proofs.YtdikhdfpcipdbaaGreatDoor.nums
set_option linter.unusedVariables false

theorem specPlus (a b : Int) (w : World) :
    Calls Tryz.prog 190 #[.int .i64 a, .int .i64 b] w fun e w' => e = .returned (.int .i64 (kPlus a b)) ∧ w = w' := by
  have a1 := fit_ge a; have a2 := fit_le a; have b1 := fit_ge b; have b2 := fit_le b
  go_enter Tryz.func190, Tryz.ntmps190
  go_wp2_with ((go_at_call 104; refine (specFit _ _).mono ?_; rintro e w' ⟨rfl, rfl⟩))
  go_ret
  exact ⟨rfl, rfl⟩

theorem specToward (a b c : Int) (w : World) (hc1 : -9223372036854775808 ≤ c) (hc2 : c ≤ 9223372036854775807) :
    Calls Tryz.prog 170 #[.int .i64 a, .int .i64 b, .int .i64 c] w fun e w' => e = .returned (.int .i64 (kToward a b c)) ∧ w = w' := by
  have a1 := fit_ge a; have a2 := fit_le a; have b1 := fit_ge b; have b2 := fit_le b
  have d1 : -2000000 ≤ btw (fit b - fit a) (-(max 0 c)) (max 0 c) := by unfold btw; omega
  have d2 : btw (fit b - fit a) (-(max 0 c)) (max 0 c) ≤ 2000000 := by unfold btw; omega
  go_enter Tryz.func170, Tryz.ntmps170
  go_wp2_with (first | (go_at_call 104; refine (specFit _ _).mono ?_; rintro e w' ⟨rfl, rfl⟩) | (go_at_call 26; refine (specMax _ _ _).mono ?_; rintro e w' ⟨rfl, rfl⟩) | (go_at_call 44; refine (specBetween _ _ _ _).mono ?_; rintro e w' ⟨rfl, rfl⟩))
  go_ret
  exact ⟨rfl, rfl⟩

theorem toward_eq (x to step : Int) : kToward x to step = btw (fit to) (fit x - btw step 0 2000000) (fit x + btw step 0 2000000) := by
  have a1 := fit_ge x; have a2 := fit_le x; have b1 := fit_ge to; have b2 := fit_le to
  unfold kToward btw; omega

theorem specApart (a b : Int) (w : World) :
    Calls Tryz.prog 82 #[.int .i64 a, .int .i64 b] w fun e w' => e = .returned (.int .i64 (kApart a b)) ∧ w = w' := by
  have a1 := fit_ge a; have a2 := fit_le a; have b1 := fit_ge b; have b2 := fit_le b
  go_enter Tryz.func82, Tryz.ntmps82
  go_wp2_with (first | (go_at_call 104; refine (specFit _ _).mono ?_; rintro e w' ⟨rfl, rfl⟩) | (go_at_call 26; refine (specMax _ _ _).mono ?_; rintro e w' ⟨rfl, rfl⟩) | (go_at_call 79; refine (specMin _ _ _).mono ?_; rintro e w' ⟨rfl, rfl⟩))
  go_ret
  exact ⟨rfl, rfl⟩

def gap (s o : Int) : Int := fit (max s o - min s o)
theorem implSizeApart (a b : Int) (w : World) (ha1 : -1000000 ≤ a) (ha2 : a ≤ 1000000) (hb1 : -1000000 ≤ b) (hb2 : b ≤ 1000000) :
    Calls Tryz.prog 100 #[.int .i64 a, .int .i64 b] w fun e w' => e = .returned (.int .i64 (gap a b)) ∧ w = w' := by
  go_enter Tryz.func100, Tryz.ntmps100
  go_wp2_with (go_at_call 99; refine (implSized _ _).mono ?_; rintro e w' ⟨rfl, rfl⟩)
  all_goals go_ret
  all_goals exact ⟨ret_int (by unfold gap; congr 1; omega), rfl⟩

theorem implWithApart (s n : Int) (w : World) (h1 : -1000000 ≤ s) (h2 : s ≤ 1000000) :
    Calls Tryz.prog 98 #[.func (Fn.func 100) #[.int .i64 s] #[], .int .i64 n] w fun e w' => e = .returned (.int .i64 (gap s (fit n))) ∧ w = w' := by
  have b1 := fit_ge n; have b2 := fit_le n
  go_enter Tryz.func98, Tryz.ntmps98
  go_wp2_with (first
    | (go_at_call 99; refine (implSized _ _).mono ?_; rintro e w' ⟨rfl, rfl⟩)
    | (go_at_call 100; refine (implSizeApart _ _ _ h1 h2 b1 b2).mono ?_; rintro e w' ⟨rfl, rfl⟩))
  go_ret
  exact ⟨rfl, rfl⟩

theorem gap_eq (a b : Int) : gap (fit a) (fit b) = kApart a b := by
  have a1 := fit_ge a; have a2 := fit_le a; have b1 := fit_ge b; have b2 := fit_le b
  unfold gap kApart
  generalize fit a = x at *
  generalize fit b = y at *
  unfold fit btw; omega

theorem implApart (a b : Int) (w : World) :
    Calls Tryz.prog 73 #[.int .i64 a, .int .i64 b] w fun e w' => e = .returned (.int .i64 (kApart a b)) ∧ w = w' := by
  have a1 := fit_ge a; have a2 := fit_le a; have b1 := fit_ge b; have b2 := fit_le b
  go_enter Tryz.func73, Tryz.ntmps73
  go_wp2_with (first
    | (go_at_call 99; refine (implSized _ _).mono ?_; rintro e w' ⟨rfl, rfl⟩)
    | (go_at_call 98; refine (implWithApart _ _ _ a1 a2).mono ?_; rintro e w' ⟨rfl, rfl⟩))
  go_ret
  exact ⟨ret_int (gap_eq a b), rfl⟩

theorem part_zero {a b c : Int} (h : c = 0 ∨ c < -1000000 ∨ 1000000 < c) : kPart a b c = 0 := if_pos h
theorem part_else {a b c : Int} (h : ¬ (c = 0 ∨ c < -1000000 ∨ 1000000 < c)) : kPart a b c = fit ((fit a * fit b).tdiv c) := if_neg h
theorem tdiv_bd (m c : Int) (h1 : -1000000000000 ≤ m) (h2 : m ≤ 1000000000000) : -1000000000000 ≤ m.tdiv c ∧ m.tdiv c ≤ 1000000000000 := by
  have := Int.natAbs_tdiv_le_natAbs m c
  omega

theorem specPart (a b c : Int) (w : World) :
    Calls Tryz.prog 169 #[.int .i64 a, .int .i64 b, .int .i64 c] w fun e w' => e = .returned (.int .i64 (kPart a b c)) ∧ w = w' := by
  have m := fit_mul a b; obtain ⟨m1, m2⟩ := m
  have t := tdiv_bd _ c m1 m2; obtain ⟨t1, t2⟩ := t
  by_cases h0 : c = 0
  · have hp : kPart a b c = 0 := part_zero (Or.inl h0)
    have Hp := Lib.hid hp; clear hp
    have hb : (c == 0) = true := by simpa using h0
    clear h0
    go_enter Tryz.func169, Tryz.ntmps169
    go_wp2_with fail
    go_ret
    exact ⟨ret_int Hp.out.symm, rfl⟩
  · by_cases hs : c < -1000000 ∨ 1000000 < c
    · have hp : kPart a b c = 0 := part_zero (Or.inr hs)
      have Hp := Lib.hid hp; clear hp
      have hb : (c == 0) = false := by simpa using h0
      have hi : inb c (-1000000) 1000000 = false := by unfold inb; simp; omega
      clear h0 hs
      go_enter Tryz.func169, Tryz.ntmps169
      go_wp2_with (go_at_call 78; refine (specSizeOk _ _).mono ?_; rintro e w' ⟨rfl, rfl⟩)
      go_ret
      exact ⟨ret_int Hp.out.symm, rfl⟩
    · have hp : kPart a b c = fit ((fit a * fit b).tdiv c) := part_else (by omega)
      have Hp := Lib.hid hp; clear hp
      have hb : (c == 0) = false := by simpa using h0
      have hi : inb c (-1000000) 1000000 = true := by unfold inb; simp; omega
      clear hs
      go_enter Tryz.func169, Tryz.ntmps169
      go_wp2_with (first
        | (go_at_call 78; refine (specSizeOk _ _).mono ?_; rintro e w' ⟨rfl, rfl⟩)
        | (go_at_call 104; refine (specFit _ _).mono ?_; rintro e w' ⟨rfl, rfl⟩))
      go_ret
      exact ⟨ret_int Hp.out.symm, rfl⟩
end Go.Proofs.YtdikhdfpcipdbaaGreatDoor.fix
