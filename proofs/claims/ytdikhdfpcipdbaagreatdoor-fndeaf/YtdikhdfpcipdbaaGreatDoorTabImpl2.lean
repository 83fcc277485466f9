/- The program's TableOk, where it goes through the points. -/
import Derived.Test.YtdikhdfpcipdbaaGreatDoorTabImpl
namespace Go.Proofs.YtdikhdfpcipdbaaGreatDoor.tab
open Go.ChangeShapes Go.WideShapes Go.ChangeAt Go.RowKit Go.Shelf
open Go.Proofs.YtdikhdfpcipdbaaGreatDoor.nums Go.Proofs.YtdikhdfpcipdbaaGreatDoor.mem
set_option linter.unusedVariables false
attribute [local go_sem] Oper.semAt_some

theorem okT_of {ps : Pts} (h2 : 2 ≤ ps.length) (h8 : ps.length ≤ 8) (hs : szB ps 0 = true) (h : ∀ k ∈ List.range (ps.length - 1), szB ps (k + 1) = true ∧ px ps k < px ps (k + 1)) : OkT ps := by
  refine ⟨h2, h8, fun k hk => ?_, fun k hk => (h k (by simp; omega)).2⟩
  cases k with
  | zero => exact hs
  | succ k => exact (h k (by simp; omega)).1
theorem last_of {ini : List Nat} {k j : Nat} (h : List.range (j + 1) = ini ++ [k]) : k = j ∧ ini = List.range j := by
  rw [List.range_succ] at h
  obtain ⟨e1, e2⟩ := List.append_inj' h rfl
  exact ⟨by simpa using e2.symm, e1.symm⟩
theorem all_snoc {p : Nat → Prop} {pre : List Nat} {x : Nat} (h : ∀ k ∈ pre, p k) (hx : p x) : ∀ k ∈ pre ++ [x], p k := fun k hk =>
  (List.mem_append.1 hk).elim (h k) (fun e => by simp at e; subst e; exact hx)

end Go.Proofs.YtdikhdfpcipdbaaGreatDoor.tab
