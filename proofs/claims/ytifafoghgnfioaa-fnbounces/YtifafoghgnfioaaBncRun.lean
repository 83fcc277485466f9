/- What the law of bounces counts: signs in all, signs one behind the other. -/
import Derived.Test.YtifafoghgnfioaaBncDraw2
namespace Go.Proofs.Ytifafoghgnfioaa.bnc
open Go.ChangeShapes Go.WideShapes Go.ChangeAt Go.RowKit
open Go.Proofs.Ytifafoghgnfioaa.nums Go.Proofs.Ytifafoghgnfioaa.mem
open Go.Proofs.Ytifafoghgnfioaa.tab (Ret)
set_option linter.unusedVariables false

/-- R signs one behind the other at the end: so far N has come, and it is on where they are enough. -/
def RunOk (u : Int) (b : B) (R : Int) : Prop := (0 ≤ b.1 ∧ min u R ≤ b.1) ∧ (u ≤ R → b.2 = true)
/-- A signs in all: N is no more, and it is not on where they are not enough. -/
def AllOk (u : Int) (b : B) (A : Int) : Prop := (0 ≤ b.1 ∧ b.1 ≤ A) ∧ (b.2 = true → u ≤ A)

theorem RunOk.zero {u : Int} (hu : Rng u) : RunOk u (0, false) 0 := by
  obtain ⟨u0, u1⟩ := hu
  exact ⟨⟨by simp, by simp; omega⟩, fun h => by omega⟩
theorem AllOk.zero {u : Int} (hu : Rng u) : AllOk u (0, false) 0 := ⟨⟨by simp, by simp⟩, fun h => by cases h⟩
theorem RunOk.rise {u d : Int} {b : B} {R : Int} (hu : Rng u) (h : RunOk u b R) : RunOk u (feel u d b true) (R + 1) := by
  obtain ⟨u0, u1⟩ := hu
  obtain ⟨⟨h0, h1⟩, h2⟩ := h
  refine ⟨⟨by simp only [feel]; omega, by simp only [feel]; omega⟩, fun h => ?_⟩
  simp only [feel]
  by_cases h3 : u ≤ R
  · rw [h2 h3]; rfl
  · have : u ≤ min u (b.1 + 1) := by omega
    simp [this]
theorem RunOk.fall {u d : Int} {b : B} {R : Int} (hu : Rng u) (hd : Rng d) (h : RunOk u b R) : RunOk u (feel u d b false) 0 := by
  obtain ⟨u0, u1⟩ := hu
  obtain ⟨d0, d1⟩ := hd
  exact ⟨⟨by simp only [feel]; omega, by simp only [feel]; omega⟩, fun h => by omega⟩
theorem AllOk.rise {u d : Int} {b : B} {A : Int} (hu : Rng u) (h : AllOk u b A) : AllOk u (feel u d b true) (A + 1) := by
  obtain ⟨u0, u1⟩ := hu
  obtain ⟨⟨h0, h1⟩, h2⟩ := h
  refine ⟨⟨by simp only [feel]; omega, by simp only [feel]; omega⟩, fun h => ?_⟩
  simp only [feel, Bool.or_eq_true, decide_eq_true_eq] at h
  rcases h with h | h
  · have := h2 h; omega
  · omega
theorem AllOk.fall {u d : Int} {b : B} {A : Int} (hu : Rng u) (hd : Rng d) (h : AllOk u b A) : AllOk u (feel u d b false) A := by
  obtain ⟨u0, u1⟩ := hu
  obtain ⟨d0, d1⟩ := hd
  obtain ⟨⟨h0, h1⟩, h2⟩ := h
  refine ⟨⟨by simp only [feel]; omega, by simp only [feel]; omega⟩, fun h => ?_⟩
  simp only [feel, Bool.and_eq_true, decide_eq_true_eq] at h
  exact h2 h.1

theorem one_right {u d : Int} {b : B} {s : Bool} (h : right b u d = true) : one u d b s = feel u d b s := if_pos h
theorem many_right {u d : Int} {b : B} {l : List Bool} (h : right b u d = true) (h2 : l.length ≤ 200) : many u d b l = felt u d b l := if_pos ⟨h, h2⟩
theorem many_wrong {u d : Int} {b : B} {l : List Bool} (h : right b u d = true → 200 < l.length) : many u d b l = (0, false) := if_neg fun ⟨h1, h2⟩ => by have := h h1; omega
theorem implFelt_ok (N : Int) (on s : Bool) (u d : Int) (w : World) (h0 : 0 ≤ N) (h1 : N ≤ 100) (hu : Rng u) (hd : Rng d) : Calls Try.prog 9 #[.agg #[.int .i64 N, .bool on], .bool s, .int .i64 u, .int .i64 d] w (RetB (feel u d (N, on) s) w) := by
  have h : right (N, on) u d = true := right_iff.2 ⟨⟨h0, h1⟩, hu, hd⟩
  rw [← one_right h]
  exact implFelt N on s u d w
end Go.Proofs.Ytifafoghgnfioaa.bnc
