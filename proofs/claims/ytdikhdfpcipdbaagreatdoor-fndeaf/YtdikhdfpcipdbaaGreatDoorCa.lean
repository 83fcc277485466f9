/- Chapter 10, the small functions: cases, who is across, who stays on; of the program and of the model. -/
import Derived.Test.YtdikhdfpcipdbaaGreatDoorIl
import Derived.Test.YtdikhdfpcipdbaaGreatDoorFix
namespace Go.Proofs.YtdikhdfpcipdbaaGreatDoor.cas
open Go.ChangeShapes Go.WideShapes Go.ChangeAt Go.RowKit
open Go.Proofs.YtdikhdfpcipdbaaGreatDoor.nums Go.Proofs.YtdikhdfpcipdbaaGreatDoor.mem
open Go.Proofs.YtdikhdfpcipdbaaGreatDoor.fix (ret_int ret_bool)
open Go.Proofs.YtdikhdfpcipdbaaGreatDoor.il (nth)
set_option linter.unusedVariables false

def across (f : Int) : Int := if 0 ≤ f ∧ f ≤ 5 then (f + 3) % 6 else -1
def caseOk (c : Int) : Bool := inb c 0 7
def staysOn (c f : Int) : Bool := decide (0 ≤ c ∧ c ≤ 6 ∧ 0 ≤ f ∧ f ≤ 5 ∧ (c = 0 ∨ f ≠ c - 1 ∧ f ≠ across (c - 1)))
def caseOf (l : List Int) : Int := if l = [] then 0 else if l.length = 1 ∧ 0 ≤ nth l 0 ∧ nth l 0 ≤ 5 then nth l 0 + 1 else 7
/-- Which of the first k stay on. -/
def staysTo (c : Int) (k : Nat) : List Int := ((List.range k).filter fun j : Nat => staysOn c (j : Int)).map fun j : Nat => (j : Int)
def staysIn (c : Int) : List Int := staysTo c 6

theorem across_yes {f : Int} (h0 : 0 ≤ f) (h1 : f ≤ 5) : across f = (f + 3) % 6 := if_pos ⟨h0, h1⟩
theorem across_no {f : Int} (h : f < 0 ∨ 5 < f) : across f = -1 := if_neg (by omega)
theorem to_yes {c : Int} {k : Nat} (h : staysOn c k = true) : staysTo c (k + 1) = staysTo c k ++ [(k : Int)] := by
  unfold staysTo; rw [List.range_succ, List.filter_append, List.map_append]; simp [h]
theorem to_no {c : Int} {k : Nat} (h : staysOn c k = false) : staysTo c (k + 1) = staysTo c k := by
  unfold staysTo; rw [List.range_succ, List.filter_append, List.map_append]; simp [h]
theorem to_len (c : Int) (k : Nat) : (staysTo c k).length ≤ k := by
  unfold staysTo; rw [List.length_map]; exact Nat.le_trans (List.length_filter_le _ _) (by simp)

theorem implCaseOk (c : Int) (w : World) :
    Calls Tryz.prog 33 #[.int .i64 c] w fun e w' => e = .returned (.bool (caseOk c)) ∧ w = w' := by
  go_enter Tryz.func33, Tryz.ntmps33
  go_wp2
  all_goals go_ret
  all_goals exact ⟨ret_bool (by unfold caseOk inb; simp <;> omega), rfl⟩

theorem specCaseOk (c : Int) (w : World) :
    Calls Tryz.prog 46 #[.int .i64 c] w fun e w' => e = .returned (.bool (caseOk c)) ∧ w = w' := by
  go_enter Tryz.func46, Tryz.ntmps46
  go_wp2_with fail
  refine (fix.specIn c _ _ _).mono ?_
  rintro e w' ⟨rfl, rfl⟩
  go_wp2_with fail
  go_ret
  exact ⟨rfl, rfl⟩

theorem specAcross (f : Int) (w : World) :
    Calls Tryz.prog 195 #[.int .i64 f] w fun e w' => e = .returned (.int .i64 (across f)) ∧ w = w' := by
  go_enter Tryz.func195, Tryz.ntmps195
  go_wp2_with fail
  refine (fix.specIn f _ _ _).mono ?_
  rintro e w' ⟨rfl, rfl⟩
  by_cases h : 0 ≤ f ∧ f ≤ 5
  · rw [show inb f 0 5 = true by unfold inb; simp; omega]
    go_wp2_with fail
    go_ret
    exact ⟨ret_int (by rw [across_yes h.1 h.2]), rfl⟩
  · rw [show inb f 0 5 = false by unfold inb; simp; omega]
    go_wp2_with fail
    go_ret
    exact ⟨ret_int (by rw [across_no (by omega)]), rfl⟩

/-- Of one fan's case: out is that fan, x the one across from it. -/
theorem on_one {c f out x : Int} (h0 : 1 ≤ c) (h1 : c ≤ 6) (ho : out = c - 1) (hx : across out = x) : staysOn c f = (decide (f ≠ out) && (decide (f ≠ x) && inb f 0 5)) := by
  subst ho
  unfold staysOn inb
  rw [hx, Bool.eq_iff_iff]
  simp
  omega
theorem on_none (f : Int) : staysOn 0 f = inb f 0 5 := by unfold staysOn inb; simp
theorem on_no {c f : Int} (h : c < 0 ∨ 6 < c) : staysOn c f = false := by unfold staysOn; simp; omega

set_option maxHeartbeats 1000000 in
theorem specStaysOn (c f : Int) (w : World) :
    Calls Tryz.prog 192 #[.int .i64 c, .int .i64 f] w fun e w' => e = .returned (.bool (staysOn c f)) ∧ w = w' := by
  by_cases h : 0 ≤ c ∧ c ≤ 6
  · have k1 : caseOk c = true := by unfold caseOk inb; simp; omega
    by_cases hf : 0 ≤ f ∧ f ≤ 5
    · have k2 : inb f 0 5 = true := by unfold inb; simp; omega
      have h7 : decide (c = 7) = false := by simp; omega
      by_cases h0 : c = 0
      · subst h0
        rw [on_none, k2]
        go_enter Tryz.func192, Tryz.ntmps192
        go_wp2_with (first | (go_at_call 46; refine (specCaseOk _ _).mono ?_; rw [k1]; rintro e w' ⟨rfl, rfl⟩) | (go_at_call 24; refine (fix.specIn f _ _ _).mono ?_; rw [k2]; rintro e w' ⟨rfl, rfl⟩))
        go_ret
        exact ⟨rfl, rfl⟩
      · obtain ⟨x, hx⟩ : ∃ x, across (c - 1) = x := ⟨_, rfl⟩
        rw [on_one (by omega) h.2 rfl hx, k2, Bool.and_true]
        have cA : ∀ W, Calls Tryz.prog 195 #[.int .i64 (c - 1)] W fun e w' => e = .returned (.int .i64 x) ∧ W = w' := fun W => hx ▸ specAcross (c - 1) W
        clear hx
        have h0' : decide (c = 0) = false := by simp [h0]
        go_enter Tryz.func192, Tryz.ntmps192
        go_wp2_with (first | (go_at_call 46; refine (specCaseOk _ _).mono ?_; rw [k1]; rintro e w' ⟨rfl, rfl⟩) | (go_at_call 24; refine (fix.specIn f _ _ _).mono ?_; rw [k2]; rintro e w' ⟨rfl, rfl⟩) | (go_at_call 195; refine (cA _).mono ?_; rintro e w' ⟨rfl, rfl⟩))
        all_goals go_ret
        all_goals exact ⟨ret_bool (by rw [Bool.eq_iff_iff]; simp; omega), rfl⟩
    · have k2 : inb f 0 5 = false := by unfold inb; simp; omega
      have e : staysOn c f = false := by unfold staysOn; simp; omega
      rw [e]
      go_enter Tryz.func192, Tryz.ntmps192
      go_wp2_with (first | (go_at_call 46; refine (specCaseOk _ _).mono ?_; rw [k1]; rintro e w' ⟨rfl, rfl⟩) | (go_at_call 24; refine (fix.specIn f _ _ _).mono ?_; rw [k2]; rintro e w' ⟨rfl, rfl⟩))
      go_ret
      exact ⟨rfl, rfl⟩
  · rw [on_no (by omega)]
    by_cases h7 : c = 7
    · subst h7
      have k1 : caseOk 7 = true := rfl
      obtain ⟨k, hk⟩ : ∃ k, inb f 0 5 = k := ⟨_, rfl⟩
      cases k
      all_goals go_enter Tryz.func192, Tryz.ntmps192
      all_goals go_wp2_with (first | (go_at_call 46; refine (specCaseOk _ _).mono ?_; rw [k1]; rintro e w' ⟨rfl, rfl⟩) | (go_at_call 24; refine (fix.specIn f _ _ _).mono ?_; rw [hk]; rintro e w' ⟨rfl, rfl⟩))
      all_goals go_ret
      all_goals exact ⟨rfl, rfl⟩
    · have k1 : caseOk c = false := by unfold caseOk inb; simp; omega
      go_enter Tryz.func192, Tryz.ntmps192
      go_wp2_with (first | (go_at_call 46; refine (specCaseOk _ _).mono ?_; rw [k1]; rintro e w' ⟨rfl, rfl⟩))
      go_ret
      exact ⟨rfl, rfl⟩
end Go.Proofs.YtdikhdfpcipdbaaGreatDoor.cas
