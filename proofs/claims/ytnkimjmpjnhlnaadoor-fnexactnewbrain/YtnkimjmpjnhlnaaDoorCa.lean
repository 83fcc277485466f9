/- Chapter 10, the small functions: cases, who is across, who stays on; of the program and of the model. -/
import Derived.Test.YtnkimjmpjnhlnaaDoorIl
import Derived.Test.YtnkimjmpjnhlnaaDoorFix
namespace Go.Proofs.YtnkimjmpjnhlnaaDoor.cas
open Go.ChangeShapes Go.WideShapes Go.ChangeAt Go.RowKit
open Go.Proofs.YtnkimjmpjnhlnaaDoor.nums Go.Proofs.YtnkimjmpjnhlnaaDoor.mem
open Go.Proofs.YtnkimjmpjnhlnaaDoor.fix (ret_int ret_bool)
open Go.Proofs.YtnkimjmpjnhlnaaDoor.il (nth)
set_option linter.unusedVariables false

def across (f : Int) : Int := if 0 ≤ f ∧ f ≤ 5 then (f + 3) % 6 else -1
def caseOk (c : Int) : Bool := inb c 0 7
def staysOn (c f : Int) : Bool := decide (0 ≤ c ∧ c ≤ 6 ∧ 0 ≤ f ∧ f ≤ 5 ∧ (c = 0 ∨ f ≠ c - 1 ∧ f ≠ across (c - 1)))
def caseOf (l : List Int) : Int := if l = [] then 0 else if l.length = 1 ∧ 0 ≤ nth l 0 ∧ nth l 0 ≤ 5 then nth l 0 + 1 else 7
/-- Which of the first k stay on. -/
def staysTo (c : Int) (k : Nat) : List Int := ((List.range k).filter fun j : Nat => staysOn c (j : Int)).map fun j : Nat => (j : Int)
def staysIn (c : Int) : List Int := staysTo c 6

theorem across_yes {f : Int} (h0 : 0 ≤ f) (h1 : f ≤ 5) : across f = (f + 3) % 6 := if_pos ⟨h0, h1⟩
theorem across_no {f : Int} (h : f < 0 ∨ 5 < f) : across f = -1 := if_neg (by omega)
theorem to_yes {c : Int} {k : Nat} (h : staysOn c k = true) : staysTo c (k + 1) = staysTo c k ++ [(k : Int)] := by
  unfold staysTo; rw [List.range_succ, List.filter_append, List.map_append]; simp [h]
theorem to_no {c : Int} {k : Nat} (h : staysOn c k = false) : staysTo c (k + 1) = staysTo c k := by
  unfold staysTo; rw [List.range_succ, List.filter_append, List.map_append]; simp [h]
theorem to_len (c : Int) (k : Nat) : (staysTo c k).length ≤ k := by
  unfold staysTo; rw [List.length_map]; exact Nat.le_trans (List.length_filter_le _ _) (by simp)

/-- Of one fan's case: out is that fan, x the one across from it. -/
theorem on_one {c f out x : Int} (h0 : 1 ≤ c) (h1 : c ≤ 6) (ho : out = c - 1) (hx : across out = x) : staysOn c f = (decide (f ≠ out) && (decide (f ≠ x) && inb f 0 5)) := by
  subst ho
  unfold staysOn inb
  rw [hx, Bool.eq_iff_iff]
  simp
  omega
theorem on_none (f : Int) : staysOn 0 f = inb f 0 5 := by unfold staysOn inb; simp
theorem on_no {c f : Int} (h : c < 0 ∨ 6 < c) : staysOn c f = false := by unfold staysOn; simp; omega

end Go.Proofs.YtnkimjmpjnhlnaaDoor.cas
