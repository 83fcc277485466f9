/- IsNewer, the program's and the model's. -/
import Derived.Test.YtdikhdfpcipdbaaGreatDoorFix
namespace Go.Proofs.YtdikhdfpcipdbaaGreatDoor.stm
open Go.ChangeShapes Go.WideShapes Go.ChangeAt Go.RowKit
open Go.Proofs.YtdikhdfpcipdbaaGreatDoor.nums Go.Proofs.YtdikhdfpcipdbaaGreatDoor.fix
set_option linter.unusedVariables false

/-- Is the second number newer than the first one? -/
def newer (old seq : Int) : Bool := inb seq 0 99 && (decide (old = -1) || (inb old 0 99 && inb ((seq - old + 100) % 100) 1 50))

theorem implSeqOk (k : Int) (w : World) : Calls Tryz.prog 84 #[.int .i64 k] w fun e w' => e = .returned (.bool (inb k 0 99)) ∧ w = w' := by
  go_enter Tryz.func84, Tryz.ntmps84
  go_wp2
  all_goals go_ret
  all_goals exact ⟨ret_bool (by unfold inb; simp <;> omega), rfl⟩

theorem inb_true {x l h : Int} (hi : inb x l h = true) : l ≤ x ∧ x ≤ h := by unfold inb at hi; simpa using hi

theorem implNewer (o s : Int) (w : World) :
    Calls Tryz.prog 66 #[.int .i64 o, .int .i64 s] w fun e w' => e = .returned (.bool (newer o s)) ∧ w = w' := by
  cases hs : inb s 0 99
  · have hn : newer o s = false := by rw [newer, hs]; rfl
    have cS : ∀ W, Calls Tryz.prog 84 #[.int .i64 s] W fun e w' => e = .returned (.bool false) ∧ W = w' := fun W => hs ▸ implSeqOk s W
    rw [hn]
    go_enter Tryz.func66, Tryz.ntmps66
    go_wp2_with fail
    refine (cS _).mono ?_
    rintro e w' ⟨rfl, rfl⟩
    go_wp2_with fail
    go_ret
    exact ⟨rfl, rfl⟩
  · have cS : ∀ W, Calls Tryz.prog 84 #[.int .i64 s] W fun e w' => e = .returned (.bool true) ∧ W = w' := fun W => hs ▸ implSeqOk s W
    obtain ⟨s0, s1⟩ := inb_true hs
    by_cases h1 : o = -1
    · have hn : newer o s = true := by rw [newer, hs, decide_eq_true h1]; rfl
      rw [hn]
      subst h1
      clear hn hs
      go_enter Tryz.func66, Tryz.ntmps66
      go_wp2_with fail
      refine (cS _).mono ?_
      rintro e w' ⟨rfl, rfl⟩
      go_wp2_with fail
      go_ret
      exact ⟨rfl, rfl⟩
    · have h1' : (o == -1) = false := by rw [beq_eq_false_iff_ne]; exact h1
      cases ho : inb o 0 99
      · have hn : newer o s = false := by rw [newer, hs, decide_eq_false h1, ho]; rfl
        have cO : ∀ W, Calls Tryz.prog 84 #[.int .i64 o] W fun e w' => e = .returned (.bool false) ∧ W = w' := fun W => ho ▸ implSeqOk o W
        rw [hn]
        clear hn hs ho
        go_enter Tryz.func66, Tryz.ntmps66
        go_wp2_with fail
        refine (cS _).mono ?_
        rintro e w' ⟨rfl, rfl⟩
        go_wp2_with fail
        refine (cO _).mono ?_
        rintro e w' ⟨rfl, rfl⟩
        go_wp2_with fail
        go_ret
        exact ⟨rfl, rfl⟩
      · have hn : newer o s = inb ((s - o + 100) % 100) 1 50 := by rw [newer, hs, decide_eq_false h1, ho]; rfl
        have cO : ∀ W, Calls Tryz.prog 84 #[.int .i64 o] W fun e w' => e = .returned (.bool true) ∧ W = w' := fun W => ho ▸ implSeqOk o W
        obtain ⟨o0, o1⟩ := inb_true ho
        have hm : (s - o + 100).tmod 100 = (s - o + 100) % 100 := Int.tmod_eq_emod_of_nonneg (by omega)
        rw [hn]
        clear hn hs ho
        go_enter Tryz.func66, Tryz.ntmps66
        go_wp2_with fail
        refine (cS _).mono ?_
        rintro e w' ⟨rfl, rfl⟩
        go_wp2_with fail
        refine (cO _).mono ?_
        rintro e w' ⟨rfl, rfl⟩
        go_wp2
        all_goals go_ret
        all_goals exact ⟨ret_bool (by unfold inb; simp <;> omega), rfl⟩

theorem specNewer (o s : Int) (w : World) :
    Calls Tryz.prog 76 #[.int .i64 o, .int .i64 s] w fun e w' => e = .returned (.bool (newer o s)) ∧ w = w' := by
  cases hs : inb s 0 99
  · have hn : newer o s = false := by rw [newer, hs]; rfl
    have cS : ∀ W, Calls Tryz.prog 24 #[.int .i64 s, .int .i64 0, .int .i64 99] W fun e w' => e = .returned (.bool false) ∧ W = w' := fun W => hs ▸ specIn s 0 99 W
    rw [hn]
    go_enter Tryz.func76, Tryz.ntmps76
    go_wp2_with fail
    refine (cS _).mono ?_
    rintro e w' ⟨rfl, rfl⟩
    go_wp2_with fail
    go_ret
    exact ⟨rfl, rfl⟩
  · have cS : ∀ W, Calls Tryz.prog 24 #[.int .i64 s, .int .i64 0, .int .i64 99] W fun e w' => e = .returned (.bool true) ∧ W = w' := fun W => hs ▸ specIn s 0 99 W
    obtain ⟨s0, s1⟩ := inb_true hs
    cases ho : inb o (-1) 99
    · have h1 : ¬ o = -1 := by intro e; subst e; simp [inb] at ho
      have h2 : inb o 0 99 = false := by unfold inb at ho ⊢; simp at ho ⊢; omega
      have hn : newer o s = false := by rw [newer, hs, decide_eq_false h1, h2]; rfl
      have cO : ∀ W, Calls Tryz.prog 24 #[.int .i64 o, .int .i64 (-1), .int .i64 99] W fun e w' => e = .returned (.bool false) ∧ W = w' := fun W => ho ▸ specIn o (-1) 99 W
      rw [hn]
      clear hn hs ho h1 h2
      go_enter Tryz.func76, Tryz.ntmps76
      go_wp2_with fail
      refine (cS _).mono ?_
      rintro e w' ⟨rfl, rfl⟩
      go_wp2_with fail
      refine (cO _).mono ?_
      rintro e w' ⟨rfl, rfl⟩
      go_wp2_with fail
      go_ret
      exact ⟨rfl, rfl⟩
    · have cO : ∀ W, Calls Tryz.prog 24 #[.int .i64 o, .int .i64 (-1), .int .i64 99] W fun e w' => e = .returned (.bool true) ∧ W = w' := fun W => ho ▸ specIn o (-1) 99 W
      obtain ⟨o0, o1⟩ := inb_true ho
      by_cases h1 : o = -1
      · have hn : newer o s = true := by rw [newer, hs, decide_eq_true h1]; rfl
        rw [hn]
        subst h1
        clear hn hs ho
        go_enter Tryz.func76, Tryz.ntmps76
        go_wp2_with fail
        refine (cS _).mono ?_
        rintro e w' ⟨rfl, rfl⟩
        go_wp2_with fail
        refine (cO _).mono ?_
        rintro e w' ⟨rfl, rfl⟩
        go_wp2_with fail
        go_ret
        exact ⟨rfl, rfl⟩
      · have h1' : (o == -1) = false := by rw [beq_eq_false_iff_ne]; exact h1
        have h2 : inb o 0 99 = true := by unfold inb; simp; omega
        have hn : newer o s = inb ((s - o) % 100) 1 50 := by rw [newer, hs, decide_eq_false h1, h2, show (s - o + 100) % 100 = (s - o) % 100 by omega]; rfl
        rw [hn]
        clear hn hs ho h2
        go_enter Tryz.func76, Tryz.ntmps76
        go_wp2_with fail
        refine (cS _).mono ?_
        rintro e w' ⟨rfl, rfl⟩
        go_wp2_with fail
        refine (cO _).mono ?_
        rintro e w' ⟨rfl, rfl⟩
        go_wp2_with fail
        refine (specIn _ _ _ _).mono ?_
        rintro e w' ⟨rfl, rfl⟩
        go_wp2_with fail
        go_ret
        exact ⟨rfl, rfl⟩
end Go.Proofs.YtdikhdfpcipdbaaGreatDoor.stm
