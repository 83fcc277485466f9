/- Chapter 1's Root, of the program and of the model: both return the one number of which the square is at most n and the next one's is not. -/
import Derived.Test.YtelmfhbapheegaaFix2
namespace Go.Proofs.Ytelmfhbapheegaa.fix
open Go.ChangeShapes Go.WideShapes Go.ChangeAt Go.RowKit
open Go.Proofs.Ytelmfhbapheegaa.nums
set_option linter.unusedVariables false

def IsRoot (n r : Int) : Prop := 0 ≤ r ∧ r ≤ 1000000 ∧ r * r ≤ n ∧ n < (r + 1) * (r + 1)
theorem sq_le {a b : Int} (h0 : 0 ≤ a) (h : a ≤ b) : a * a ≤ b * b := Int.mul_le_mul h h h0 (by omega)
theorem IsRoot.one {n r s : Int} (hr : IsRoot n r) (hs : IsRoot n s) : r = s := by
  obtain ⟨r0, _, r1, r2⟩ := hr
  obtain ⟨s0, _, s1, s2⟩ := hs
  have a : r ≤ s := by
    refine Int.not_lt.1 fun h => ?_
    have := sq_le (a := s + 1) (b := r) (by omega) (by omega)
    omega
  have b : s ≤ r := by
    refine Int.not_lt.1 fun h => ?_
    have := sq_le (a := r + 1) (b := s) (by omega) (by omega)
    omega
  omega
def RootOf (n : Int) (w : World) (e : Ending) (w' : World) : Prop := ∃ r : Int, IsRoot n r ∧ e = .returned (.int .i64 r) ∧ w = w'

set_option maxHeartbeats 400000 in
theorem specRoot (n : Int) (w : World) (h1 : 1 ≤ n) (h2 : n ≤ 1000000000000) :
    Calls Try.prog 31 #[.int .i64 n] w (RootOf n w) := by
  have hi : inb n 1 1000000000000 = true := by unfold inb; simp; omega
  go_enter Try.func31, Try.ntmps31
  go_wp2_with (go_at_call 43; refine (specIn _ _ _ _).mono ?_; rintro e w' ⟨rfl, rfl⟩)
  go_loop [3, 4] (fun l h => ∃ a b : Int, 1 ≤ a ∧ a ≤ b ∧ b ≤ 1000000 ∧ a * a ≤ n ∧ n < (b + 1) * (b + 1) ∧ l = .int .i64 a ∧ h = .int .i64 b) (fun l h => (intOf h - intOf l).toNat)
  case atStart => exact ⟨1, 1000000, by omega, by omega, by omega, by omega, by omega, rfl, rfl⟩
  case round =>
    obtain ⟨a, b, ha, hab, hb, han, hbn, rfl, rfl⟩ := hrel
    by_cases hlt : a < b
    · have m1 : a + 1 ≤ (a + b + 1) / 2 := by omega
      have m2 : (a + b + 1) / 2 ≤ b := by omega
      have m3 : 0 ≤ (a + b + 1) / 2 * ((a + b + 1) / 2) := Int.mul_nonneg (by omega) (by omega)
      have m4 : (a + b + 1) / 2 * ((a + b + 1) / 2) ≤ 1000000000000 := by
        have := sq_le (a := (a + b + 1) / 2) (b := 1000000) (by omega) (by omega)
        simpa using this
      have m5 : ((a + b + 1) / 2 - 1 + 1) = (a + b + 1) / 2 := by omega
      have M5 := Lib.hid m5; clear m5
      go_wp2
      · go_round
        case rel => exact ⟨_, b, by omega, by omega, by omega, ‹_›, hbn, rfl, rfl⟩
        case measure => simp [intOf]; omega
      · go_round
        case rel => exact ⟨a, _, by omega, by omega, by omega, han, by rw [M5.out]; assumption, rfl, rfl⟩
        case measure => simp [intOf]; omega
    · have e : b = a := by omega
      subst e
      go_wp2
      go_ret
      exact ⟨_, ⟨by omega, by omega, han, hbn⟩, rfl, rfl⟩

theorem implSquare (s n : Int) (w : World) (h1 : 0 ≤ s) (h2 : s ≤ 1000000) :
    Calls Try.prog 47 #[.int .i64 s, .int .i64 n] w fun e w' => e = .returned (.bool (decide (s * s ≤ n))) ∧ w = w' := by
  have m3 : 0 ≤ s * s := Int.mul_nonneg (by omega) (by omega)
  have m4 : s * s ≤ 1000000000000 := by
    have := sq_le (a := s) (b := 1000000) (by omega) (by omega)
    simpa using this
  have m5 : -1000000000000 ≤ s * s := by omega
  go_enter Try.func47, Try.ntmps47
  go_wp2_with (go_at_call 37; refine (implSizeTimes _ _ _ m5 m4).mono ?_; rintro e w' ⟨rfl, rfl⟩)
  all_goals go_ret
  all_goals exact ⟨rfl, rfl⟩

set_option maxHeartbeats 400000 in
theorem implGreatest (n : Int) (w : World) (h1 : 1 ≤ n) (h2 : n ≤ 1000000000000) :
    Calls Try.prog 46 #[.func (Fn.func 47) #[] #[], .int .i64 n] w (RootOf n w) := by
  go_enter Try.func46, Try.ntmps46
  go_wp2
  go_loop [5, 6] (fun l h => ∃ a b : Int, 0 ≤ a ∧ a ≤ b ∧ b ≤ 1000000 ∧ a * a ≤ n ∧ n < (b + 1) * (b + 1) ∧ l = .int .i64 a ∧ h = .int .i64 b) (fun l h => (intOf h - intOf l).toNat)
  case atStart => exact ⟨0, 1000000, by omega, by omega, by omega, by omega, by omega, rfl, rfl⟩
  case round =>
    obtain ⟨a, b, ha, hab, hb, han, hbn, rfl, rfl⟩ := hrel
    by_cases hlt : a < b
    · have m1 : a + 1 ≤ b - (b - a) / 2 := by omega
      have m2 : b - (b - a) / 2 ≤ b := by omega
      have m0 : 0 ≤ b - (b - a) / 2 := by omega
      have m6 : b - (b - a) / 2 ≤ 1000000 := by omega
      have m5 : (b - (b - a) / 2 - 1 + 1) = b - (b - a) / 2 := by omega
      have M5 := Lib.hid m5; clear m5
      by_cases hq : (b - (b - a) / 2) * (b - (b - a) / 2) ≤ n
      · go_wp2_with (go_at_call 47; refine (implSquare _ _ _ m0 m6).mono ?_; rintro e w' ⟨rfl, rfl⟩)
        go_round
        case rel => exact ⟨_, b, by omega, by omega, by omega, hq, hbn, rfl, rfl⟩
        case measure => simp [intOf]; omega
      · go_wp2_with (go_at_call 47; refine (implSquare _ _ _ m0 m6).mono ?_; rintro e w' ⟨rfl, rfl⟩)
        go_round
        case rel => exact ⟨a, _, by omega, by omega, by omega, han, by rw [M5.out]; omega, rfl, rfl⟩
        case measure => simp [intOf]; omega
    · have e : b = a := by omega
      subst e
      go_wp2
      go_ret
      exact ⟨_, ⟨by omega, by omega, han, hbn⟩, rfl, rfl⟩

theorem implRoot (n : Int) (w : World) (h1 : 1 ≤ n) (h2 : n ≤ 1000000000000) :
    Calls Try.prog 30 #[.int .i64 n] w (RootOf n w) := by
  go_enter Try.func30, Try.ntmps30
  go_wp2_with (go_at_call 46; refine (implGreatest _ _ h1 h2).mono ?_; rintro e w' ⟨r, hr, rfl, rfl⟩)
  go_ret
  exact ⟨_, hr, rfl, rfl⟩

theorem implRoot0 (n : Int) (w : World) (h : n < 1 ∨ 1000000000000 < n) :
    Calls Try.prog 30 #[.int .i64 n] w fun e w' => e = .returned (.int .i64 0) ∧ w = w' := by
  rcases h with h | h
  · go_enter Try.func30, Try.ntmps30
    go_wp2
    go_ret
    exact ⟨rfl, rfl⟩
  · have h' : 1 ≤ n := by omega
    go_enter Try.func30, Try.ntmps30
    go_wp2
    go_ret
    exact ⟨rfl, rfl⟩

theorem specRoot0 (n : Int) (w : World) (h : n < 1 ∨ 1000000000000 < n) :
    Calls Try.prog 31 #[.int .i64 n] w fun e w' => e = .returned (.int .i64 0) ∧ w = w' := by
  have hi : inb n 1 1000000000000 = false := by unfold inb; simp; omega
  clear h
  go_enter Try.func31, Try.ntmps31
  go_wp2_with (go_at_call 43; refine (specIn _ _ _ _).mono ?_; rintro e w' ⟨rfl, rfl⟩)
  go_ret
  exact ⟨rfl, rfl⟩
end Go.Proofs.Ytelmfhbapheegaa.fix
