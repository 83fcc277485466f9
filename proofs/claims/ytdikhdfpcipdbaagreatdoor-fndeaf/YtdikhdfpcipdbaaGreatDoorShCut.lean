/- The cut of a demand: the farthest turn of a set, and what the program's cut gives. -/
import Derived.Test.YtdikhdfpcipdbaaGreatDoorShIn
namespace Go.Proofs.YtdikhdfpcipdbaaGreatDoor.sh
open Go.ChangeShapes Go.WideShapes Go.ChangeAt Go.RowKit
open Go.Proofs.YtdikhdfpcipdbaaGreatDoor.nums Go.Proofs.YtdikhdfpcipdbaaGreatDoor.mem
open Go.Proofs.YtdikhdfpcipdbaaGreatDoor.tab (Ret quiet_w)
set_option linter.unusedVariables false

def turn (r p : Int) (k : Nat) : Int := tR k * r + tP k * p
def pt (S : Nat → Bool) (t : Nat → Int) (k : Nat) : Int := if S k then max (t k) (-(t k)) else 0
/-- The greatest size of a turn of those in S. -/
def top (S : Nat → Bool) (t : Nat → Int) : Int := max (pt S t 0) (max (pt S t 1) (max (pt S t 2) (max (pt S t 3) (max (pt S t 4) (pt S t 5)))))
def done (S L : Nat → Bool) : Nat → Bool := fun j => S j && !L j
theorem pt_in {S : Nat → Bool} {t : Nat → Int} {B : Int} (hB : 0 ≤ B) {k : Nat} (h : -B ≤ t k ∧ t k ≤ B) : 0 ≤ pt S t k ∧ pt S t k ≤ B := by unfold pt; split <;> omega
theorem top_in {S : Nat → Bool} {t : Nat → Int} {B : Int} (hB : 0 ≤ B) (h : ∀ k, k < 6 → -B ≤ t k ∧ t k ≤ B) : 0 ≤ top S t ∧ top S t ≤ B := by
  have h0 := pt_in (S := S) hB (h 0 (by omega)); have h1 := pt_in (S := S) hB (h 1 (by omega)); have h2 := pt_in (S := S) hB (h 2 (by omega))
  have h3 := pt_in (S := S) hB (h 3 (by omega)); have h4 := pt_in (S := S) hB (h 4 (by omega)); have h5 := pt_in (S := S) hB (h 5 (by omega))
  unfold top; omega
theorem pt_le {S : Nat → Bool} {t : Nat → Int} {k : Nat} (hk : k < 6) : pt S t k ≤ top S t := by
  unfold top; rcases six hk with rfl | rfl | rfl | rfl | rfl | rfl <;> omega
theorem top_congr {S S' : Nat → Bool} {t : Nat → Int} (h : ∀ k, k < 6 → S k = S' k) : top S t = top S' t := by
  unfold top pt; rw [h 0 (by omega), h 1 (by omega), h 2 (by omega), h 3 (by omega), h 4 (by omega), h 5 (by omega)]
theorem top_none (t : Nat → Int) : top (fun _ => false) t = 0 := rfl
theorem top_le {S : Nat → Bool} {t : Nat → Int} {B : Int} : top S t ≤ B ↔ pt S t 0 ≤ B ∧ pt S t 1 ≤ B ∧ pt S t 2 ≤ B ∧ pt S t 3 ≤ B ∧ pt S t 4 ≤ B ∧ pt S t 5 ≤ B := by
  unfold top; simp only [Int.max_le]
theorem top_step {S L : Nat → Bool} {t : Nat → Int} {k : Nat} (hk : k < 6) (hS : S k = true) (hL : L k = true) : top (done S (out L k)) t = max (top (done S L) t) (max (t k) (-(t k))) := by
  have e : ∀ j, pt (done S (out L k)) t j = if j = k then max (t k) (-(t k)) else pt (done S L) t j := by
    intro j
    unfold pt done out
    by_cases h : j = k
    · subst h; simp [hS]
    · simp [h]
  have e0 : pt (done S L) t k = 0 := by unfold pt done; simp [hL]
  have hp : 0 ≤ max (t k) (-(t k)) := by omega
  generalize max (t k) (-(t k)) = v at *
  have h : ∀ B, top (done S (out L k)) t ≤ B ↔ max (top (done S L) t) v ≤ B := by
    intro B
    rw [Int.max_le, top_le, top_le, e 0, e 1, e 2, e 3, e 4, e 5]
    rcases six hk with rfl | rfl | rfl | rfl | rfl | rfl <;> simp <;> omega
  exact Int.le_antisymm ((h _).2 (Int.le_refl _)) ((h _).1 (Int.le_refl _))
theorem mul2 {a r : Int} (h : -2 ≤ a ∧ a ≤ 2) (hr : -100 ≤ r ∧ r ≤ 100) : -200 ≤ a * r ∧ a * r ≤ 200 := by
  have := mul_bd h.1 h.2 hr.1 hr.2; simpa using this
theorem turn_in {r p : Int} (hr : -100 ≤ r ∧ r ≤ 100) (hp : -100 ≤ p ∧ p ≤ 100) {k : Nat} (hk : k < 6) : -400 ≤ turn r p k ∧ turn r p k ≤ 400 := by
  have h1 := mul2 (tR_in hk) hr
  have h2 := mul2 (tP_in hk) hp
  unfold turn; omega
theorem btw_in {x l h : Int} (hl : l ≤ h) : l ≤ btw x l h ∧ btw x l h ≤ h := by unfold btw; omega
theorem apart0 {x : Int} (h : -400 ≤ x ∧ x ≤ 400) : kApart x 0 = max x (-x) := by unfold kApart fit btw; omega

/-- What is left of the Lift. -/
def cutL (S : Nat → Bool) (l r p : Int) : Int := btw l (top S (turn r p)) (1000 - top S (turn r p))
def RetDem (l r p : Int) (w : World) (e : Ending) (w' : World) : Prop := e = .returned (dem l r p) ∧ w.grownBy w' none

end Go.Proofs.YtdikhdfpcipdbaaGreatDoor.sh
