/- EffectOf of the program. -/
import Derived.Test.YtdikhdfpcipdbaaGreatDoorShImpl
import Derived.Deep.DeepCutAuto
namespace Go.Proofs.YtdikhdfpcipdbaaGreatDoor.sh
open Go.ChangeShapes Go.WideShapes Go.ChangeAt Go.RowKit
open Go.Proofs.YtdikhdfpcipdbaaGreatDoor.nums Go.Proofs.YtdikhdfpcipdbaaGreatDoor.mem
open Go.Proofs.YtdikhdfpcipdbaaGreatDoor.tab (Ret quiet_w wpList_make_has)
open Go.Proofs.YtdikhdfpcipdbaaGreatDoor.qt (region_below_tail rg_ret rg_same gr_rg)
open Go.Proofs.YtdikhdfpcipdbaaGreatDoor.il (nth Own RetI blk blk_some infoInt)
set_option linter.unusedVariables false

def rr (k : Nat) : Int := tR k * tR k
def rp (k : Nat) : Int := tR k * tP k
def pp (k : Nat) : Int := tP k * tP k
def st (S : Nat → Bool) (g : Nat → Int) (k : Nat) : Int := if S k then g k else 0
/-- Of those in S, together. -/
def sumOn (S : Nat → Bool) (g : Nat → Int) : Int := st S g 0 + st S g 1 + st S g 2 + st S g 3 + st S g 4 + st S g 5
theorem sum_congr {S S' : Nat → Bool} {g : Nat → Int} (h : ∀ k, k < 6 → S k = S' k) : sumOn S g = sumOn S' g := by
  unfold sumOn st; rw [h 0 (by omega), h 1 (by omega), h 2 (by omega), h 3 (by omega), h 4 (by omega), h 5 (by omega)]
theorem sum_step {S L : Nat → Bool} {g : Nat → Int} {k : Nat} (hk : k < 6) (hS : S k = true) (hL : L k = true) : sumOn (done S (out L k)) g = sumOn (done S L) g + g k := by
  have e : ∀ j, st (done S (out L k)) g j = if j = k then g k else st (done S L) g j := by
    intro j
    unfold st done out
    by_cases h : j = k
    · subst h; simp [hS]
    · simp [h]
  have e0 : st (done S L) g k = 0 := by unfold st done; simp [hL]
  unfold sumOn
  rw [e 0, e 1, e 2, e 3, e 4, e 5]
  rcases six hk with rfl | rfl | rfl | rfl | rfl | rfl <;> simp <;> omega
theorem st_in {S : Nat → Bool} {g : Nat → Int} {B : Int} (hB : 0 ≤ B) {k : Nat} (h : -B ≤ g k ∧ g k ≤ B) : -B ≤ st S g k ∧ st S g k ≤ B := by unfold st; split <;> omega
theorem sum_in {S : Nat → Bool} {g : Nat → Int} {B : Int} (hB : 0 ≤ B) (h : ∀ k, k < 6 → -B ≤ g k ∧ g k ≤ B) : -(6 * B) ≤ sumOn S g ∧ sumOn S g ≤ 6 * B := by
  have h0 := st_in (S := S) hB (h 0 (by omega)); have h1 := st_in (S := S) hB (h 1 (by omega)); have h2 := st_in (S := S) hB (h 2 (by omega))
  have h3 := st_in (S := S) hB (h 3 (by omega)); have h4 := st_in (S := S) hB (h 4 (by omega)); have h5 := st_in (S := S) hB (h 5 (by omega))
  unfold sumOn; omega
theorem rr_in {k : Nat} (h : k < 6) : -4 ≤ rr k ∧ rr k ≤ 4 := by rcases six h with rfl | rfl | rfl | rfl | rfl | rfl <;> decide
theorem rp_in {k : Nat} (h : k < 6) : -4 ≤ rp k ∧ rp k ≤ 4 := by rcases six h with rfl | rfl | rfl | rfl | rfl | rfl <;> decide
theorem pp_in {k : Nat} (h : k < 6) : -4 ≤ pp k ∧ pp k ≤ 4 := by rcases six h with rfl | rfl | rfl | rfl | rfl | rfl <;> decide
/-- How those that stay on weigh. -/
def effect4 (c : Int) : List Int := [(cnt6 (on c) : Int), sumOn (on c) rr, sumOn (on c) rp, sumOn (on c) pp]
def effect (c : Int) : List Int := if cas.caseOk c = true then effect4 c else []
theorem effect_yes {c : Int} (h : cas.caseOk c = true) : effect c = effect4 c := if_pos h
theorem effect_no {c : Int} (h : cas.caseOk c = false) : effect c = [] := if_neg (by rw [h]; simp)
theorem four {w : World} {g : Nat} {t : TypeId} {a b c d : Value} (h : Has w g t #[a, b, c, d]) : w.cell? ⟨g, 0, none⟩ = some a ∧ w.cell? ⟨g, 1, none⟩ = some b ∧ w.cell? ⟨g, 2, none⟩ = some c ∧ w.cell? ⟨g, 3, none⟩ = some d ∧ w.frozen? ⟨g, 0, none⟩ = false ∧ w.frozen? ⟨g, 1, none⟩ = false ∧ w.frozen? ⟨g, 2, none⟩ = false ∧ w.frozen? ⟨g, 3, none⟩ = false :=
  ⟨h.cell 0, h.cell 1, h.cell 2, h.cell 3, h.frozen 0, h.frozen 1, h.frozen 2, h.frozen 3⟩
/-- Four numbers in a block are a list. -/
theorem own4 {w : World} {g : Nat} {a b c d : Int} (h : Has w g 2 #[.int .i64 a, .int .i64 b, .int .i64 c, .int .i64 d]) : Own w (some ⟨g, 0, none⟩) [a, b, c, d] :=
  Or.inr ⟨g, 0, _, rfl, h, fun k hk => by
    have hk' : k = 0 ∨ k = 1 ∨ k = 2 ∨ k = 3 := by simp at hk; omega
    rcases hk' with rfl | rfl | rfl | rfl <;> rfl⟩

end Go.Proofs.YtdikhdfpcipdbaaGreatDoor.sh
