/- Chapter 11, the small functions: the weights, a turn, what a demand may be; of the program and of the model. -/
import Derived.Test.YtnkimjmpjnhlnaaDoorCaIn
import Derived.Test.YtnkimjmpjnhlnaaDoorCur2
import Derived.Deep.RegionHeldLaw
import Derived.Deep.RegionHeld3
namespace Go.Proofs.YtnkimjmpjnhlnaaDoor.sh
open Go.ChangeShapes Go.WideShapes Go.ChangeAt Go.RowKit
open Go.Proofs.YtnkimjmpjnhlnaaDoor.nums Go.Proofs.YtnkimjmpjnhlnaaDoor.mem
open Go.Proofs.YtnkimjmpjnhlnaaDoor.fix (ret_int ret_bool)
open Go.Proofs.YtnkimjmpjnhlnaaDoor.tab (Ret quiet_w)
set_option linter.unusedVariables false

/-- The weights of the k-th fan, for roll and for pitch. -/
def tR (k : Nat) : Int := [2, 1, -1, -2, -1, 1].getD k 0
def tP (k : Nat) : Int := [0, 2, 2, 0, -2, -2].getD k 0
def wR (f : Int) : Int := if 0 ≤ f ∧ f ≤ 5 then tR f.toNat else 0
def wP (f : Int) : Int := if 0 ≤ f ∧ f ≤ 5 then tP f.toNat else 0
theorem six {k : Nat} (h : k < 6) : k = 0 ∨ k = 1 ∨ k = 2 ∨ k = 3 ∨ k = 4 ∨ k = 5 := by omega
theorem tR_in {k : Nat} (h : k < 6) : -2 ≤ tR k ∧ tR k ≤ 2 := by rcases six h with rfl | rfl | rfl | rfl | rfl | rfl <;> decide
theorem tP_in {k : Nat} (h : k < 6) : -2 ≤ tP k ∧ tP k ≤ 2 := by rcases six h with rfl | rfl | rfl | rfl | rfl | rfl <;> decide
theorem wR_nat {k : Nat} (h : k < 6) : wR (k : Int) = tR k := by unfold wR; rw [if_pos (by omega)]; rfl
theorem wP_nat {k : Nat} (h : k < 6) : wP (k : Int) = tP k := by unfold wP; rw [if_pos (by omega)]; rfl
theorem wR_no {f : Int} (h : f < 0 ∨ 5 < f) : wR f = 0 := by unfold wR; rw [if_neg (by omega)]
theorem wP_no {f : Int} (h : f < 0 ∨ 5 < f) : wP f = 0 := by unfold wP; rw [if_neg (by omega)]
theorem wR_in (f : Int) : -2 ≤ wR f ∧ wR f ≤ 2 := by
  by_cases h : 0 ≤ f ∧ f ≤ 5
  · obtain ⟨k, rfl⟩ := Int.eq_ofNat_of_zero_le h.1
    rw [wR_nat (by omega)]; exact tR_in (by omega)
  · rw [wR_no (by omega)]; omega
theorem wP_in (f : Int) : -2 ≤ wP f ∧ wP f ≤ 2 := by
  by_cases h : 0 ≤ f ∧ f ≤ 5
  · obtain ⟨k, rfl⟩ := Int.eq_ofNat_of_zero_le h.1
    rw [wP_nat (by omega)]; exact tP_in (by omega)
  · rw [wP_no (by omega)]; omega

theorem two {w : World} {g : Nat} {t : TypeId} {a b : Value} (h : Has w g t #[a, b]) : w.cell? ⟨g, 0, none⟩ = some a ∧ w.cell? ⟨g, 1, none⟩ = some b ∧ w.frozen? ⟨g, 0, none⟩ = false ∧ w.frozen? ⟨g, 1, none⟩ = false :=
  ⟨h.cell 0, h.cell 1, h.frozen 0, h.frozen 1⟩
theorem three {w : World} {g : Nat} {t : TypeId} {a b c : Value} (h : Has w g t #[a, b, c]) : w.cell? ⟨g, 0, none⟩ = some a ∧ w.cell? ⟨g, 1, none⟩ = some b ∧ w.cell? ⟨g, 2, none⟩ = some c ∧ w.frozen? ⟨g, 0, none⟩ = false ∧ w.frozen? ⟨g, 1, none⟩ = false ∧ w.frozen? ⟨g, 2, none⟩ = false :=
  ⟨h.cell 0, h.cell 1, h.cell 2, h.frozen 0, h.frozen 1, h.frozen 2⟩
theorem set3 {w : World} {g : Nat} {t : TypeId} {a b c : Value} (h : Has w g t #[a, b, c]) (a' b' c' : Value) : Has (((w.setCell ⟨g, 0, none⟩ a').setCell ⟨g, 1, none⟩ b').setCell ⟨g, 2, none⟩ c') g t #[a', b', c'] := ((h.put 0 a' rfl).put 1 b' rfl).put 2 c' rfl

/-- Both weights of fan f. -/
def RetW (f : Int) (w : World) (e : Ending) (w' : World) : Prop := e = .returned (.tuple #[.int .i64 (wR f), .int .i64 (wP f)]) ∧ w.grownBy w' none
abbrev dem (l r p : Int) : Value := .agg #[.int .i64 l, .int .i64 r, .int .i64 p]

def rowR : Array Value := #[.int .i64 2, .int .i64 1, .int .i64 (-1), .int .i64 (-2), .int .i64 (-1), .int .i64 1]
def rowP : Array Value := #[.int .i64 0, .int .i64 2, .int .i64 2, .int .i64 0, .int .i64 (-2), .int .i64 (-2)]
theorem rowR_at {k : Nat} (h : k < 6) : rowR[k]? = some (.int .i64 (tR k)) := by rcases six h with rfl | rfl | rfl | rfl | rfl | rfl <;> rfl
theorem rowP_at {k : Nat} (h : k < 6) : rowP[k]? = some (.int .i64 (tP k)) := by rcases six h with rfl | rfl | rfl | rfl | rfl | rfl <;> rfl

theorem listR {k : Nat} (h : k < 6) : [Value.int .i64 2, .int .i64 1, .int .i64 (-1), .int .i64 (-2), .int .i64 (-1), .int .i64 1][k]'(by simpa using h) = .int .i64 (tR k) := by rcases six h with rfl | rfl | rfl | rfl | rfl | rfl <;> rfl
theorem listP {k : Nat} (h : k < 6) : [Value.int .i64 0, .int .i64 2, .int .i64 2, .int .i64 0, .int .i64 (-2), .int .i64 (-2)][k]'(by simpa using h) = .int .i64 (tP k) := by rcases six h with rfl | rfl | rfl | rfl | rfl | rfl <;> rfl

def okD (l r p : Int) : Bool := inb l (-1000000) 1000000 && (inb r (-1000000) 1000000 && inb p (-1000000) 1000000)
theorem implOutOk (n : Int) (w : World) :
    Calls Tryd.prog 68 #[.int .i64 n] w fun e w' => e = .returned (.bool (inb n 0 1000)) ∧ w = w' := by
  go_enter Tryd.func68, Tryd.ntmps68
  go_wp2
  all_goals go_ret
  all_goals exact ⟨ret_bool (by unfold inb; rw [Bool.eq_iff_iff]; simp <;> omega), rfl⟩

end Go.Proofs.YtnkimjmpjnhlnaaDoor.sh
