/- Whether all are still: the model's and the program's IsStill. -/
import Derived.Test.YtdikhdfpcipdbaaGreatDoorIl
namespace Go.Proofs.YtdikhdfpcipdbaaGreatDoor.br
open Go.ChangeShapes Go.WideShapes Go.ChangeAt Go.RowKit
open Go.Proofs.YtdikhdfpcipdbaaGreatDoor.nums Go.Proofs.YtdikhdfpcipdbaaGreatDoor.mem
open Go.Proofs.YtdikhdfpcipdbaaGreatDoor.tab (Ret)
open Go.Proofs.YtdikhdfpcipdbaaGreatDoor.il (nth Ints Own)
set_option linter.unusedVariables false

def still (l : List Int) : Bool := l.all fun n => decide (n = 0)
set_option maxHeartbeats 1000000 in
theorem specIsStill (a : Option Addr) (cap : Nat) (l : List Int) (w : World) (h : Ints w a l) (hl : l.length ≤ maxLen) :
    Calls Tryz.prog 167 #[.slice a l.length cap] w fun e w' => e = .returned (.bool (still l)) ∧ w = w' := by
  have hm : l.length ≤ 9223372036854775807 := by unfold maxLen at hl; exact hl
  clear hl
  go_enter Tryz.func167, Tryz.ntmps167
  go_wp2_with fail
  go_loopw [3] (fun i wr => wr = w ∧ ∃ k : Nat, k ≤ l.length ∧ i = .int .i64 k ∧ Hid (∀ j, j < k → nth l j = 0)) (fun i _ => l.length - (intOf i).toNat)
  case atStart => exact ⟨rfl, 0, Nat.zero_le _, rfl, Lib.hid (fun j hj => by omega)⟩
  case round =>
    obtain ⟨rfl, k, hk, rfl, hs⟩ := hrel
    by_cases hlt : k < l.length
    · obtain ⟨x, rfl, hb, cx⟩ := h k hlt
      by_cases hz : nth l k = 0
      · have HO := Lib.hid hz
        go_wp2_with fail
        go_roundw
        case rel => exact ⟨(by first | rfl | trivial), k + 1, by omega, by go_num, Lib.hid (fun j hj => by
          by_cases e : j = k
          · subst e; exact HO.out
          · exact hs.out j (by omega))⟩
        case measure => simp [intOf]; omega
      · have E : still l = false := by
          refine Bool.eq_false_iff.2 (fun e => hz ?_)
          have := List.all_eq_true.1 e l[k] (List.getElem_mem hlt)
          rw [il.nth_lt hlt]
          simpa using this
        go_wp2_with fail
        go_ret
        exact ⟨by rw [E]; rfl, rfl⟩
    · obtain rfl : k = l.length := by omega
      have E : still l = true := by
        refine List.all_eq_true.2 (fun y hy => ?_)
        obtain ⟨i, hi, rfl⟩ := List.getElem_of_mem hy
        have := hs.out i hi
        rw [il.nth_lt hi] at this
        simpa using this
      go_wp2_with fail
      go_ret
      exact ⟨by rw [E]; rfl, rfl⟩
end Go.Proofs.YtdikhdfpcipdbaaGreatDoor.br
