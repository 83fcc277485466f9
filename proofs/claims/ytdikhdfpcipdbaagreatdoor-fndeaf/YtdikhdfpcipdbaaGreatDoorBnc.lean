/- Chapter 3 on plain pairs: what one sign does to a bounce, and many. -/
import Derived.Test.YtdikhdfpcipdbaaGreatDoorNums
import Derived.WalkKit
namespace Go.Proofs.YtdikhdfpcipdbaaGreatDoor.bnc
open Go.Proofs.YtdikhdfpcipdbaaGreatDoor.nums
set_option linter.unusedVariables false

abbrev B := Int × Bool
def bv (b : B) : Value := .agg #[.int .i64 b.1, .bool b.2]
/-- One sign. -/
def feel (u d : Int) (b : B) (s : Bool) : B :=
  match s with
  | true => (min u (b.1 + 1), b.2 || decide (u ≤ min u (b.1 + 1)))
  | false => (min d (max 0 (b.1 - 1)), b.2 && decide (0 < min d (max 0 (b.1 - 1))))
/-- One after the other. -/
def felt (u d : Int) (b : B) (l : List Bool) : B := l.foldl (feel u d) b
def right (b : B) (u d : Int) : Bool := inb b.1 0 100 && (inb u 1 100 && inb d 1 100)
def Rng (u : Int) : Prop := 1 ≤ u ∧ u ≤ 100

theorem inb_iff {x l h : Int} : inb x l h = true ↔ l ≤ x ∧ x ≤ h := by unfold inb; simp
theorem inb_no {x l h : Int} (k : ¬ (l ≤ x ∧ x ≤ h)) : inb x l h = false := by unfold inb; simp; omega
theorem right_iff {b : B} {u d : Int} : right b u d = true ↔ (0 ≤ b.1 ∧ b.1 ≤ 100) ∧ Rng u ∧ Rng d := by unfold right Rng; simp [inb_iff]

theorem feel_rng {u d : Int} {b : B} (s : Bool) (hu : Rng u) (hd : Rng d) (h0 : 0 ≤ b.1) (h1 : b.1 ≤ 100) : 0 ≤ (feel u d b s).1 ∧ (feel u d b s).1 ≤ 100 := by
  obtain ⟨u0, u1⟩ := hu
  obtain ⟨d0, d1⟩ := hd
  cases s <;> simp only [feel] <;> omega
theorem felt_nil (u d : Int) (b : B) : felt u d b [] = b := rfl
theorem felt_cons (u d : Int) (b : B) (s : Bool) (l : List Bool) : felt u d b (s :: l) = felt u d (feel u d b s) l := rfl
theorem felt_snoc (u d : Int) (b : B) (l : List Bool) (s : Bool) : felt u d b (l ++ [s]) = feel u d (felt u d b l) s := by simp [felt]
theorem felt_rng {u d : Int} (hu : Rng u) (hd : Rng d) : ∀ (l : List Bool) (b : B), 0 ≤ b.1 → b.1 ≤ 100 → 0 ≤ (felt u d b l).1 ∧ (felt u d b l).1 ≤ 100
  | [], b, h0, h1 => ⟨h0, h1⟩
  | s :: l, b, h0, h1 => by
    obtain ⟨k0, k1⟩ := feel_rng s hu hd h0 h1
    exact felt_rng hu hd l _ k0 k1
theorem take_next {l : List Bool} {k : Nat} (hk : k < l.length) : l.take (k + 1) = l.take k ++ [l.getD k false] := by
  rw [List.take_succ_eq_append_getElem hk]
  simp [List.getD, List.getElem?_eq_getElem hk]
theorem felt_next (u d : Int) (b : B) {l : List Bool} {k : Nat} (hk : k < l.length) : felt u d b (l.take (k + 1)) = feel u d (felt u d b (l.take k)) (l.getD k false) := by
  rw [take_next hk, felt_snoc]
end Go.Proofs.YtdikhdfpcipdbaaGreatDoor.bnc
