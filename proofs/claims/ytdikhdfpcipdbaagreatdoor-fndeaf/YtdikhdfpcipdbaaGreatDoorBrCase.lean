/- The case of what is out: the model's CaseOf. -/
import Derived.Test.YtdikhdfpcipdbaaGreatDoorCa
import Derived.Test.YtdikhdfpcipdbaaGreatDoorIl
namespace Go.Proofs.YtdikhdfpcipdbaaGreatDoor.br
open Go.ChangeShapes Go.WideShapes Go.ChangeAt Go.RowKit
open Go.Proofs.YtdikhdfpcipdbaaGreatDoor.nums Go.Proofs.YtdikhdfpcipdbaaGreatDoor.mem
open Go.Proofs.YtdikhdfpcipdbaaGreatDoor.tab (Ret)
open Go.Proofs.YtdikhdfpcipdbaaGreatDoor.il (nth Ints Own)
set_option linter.unusedVariables false

set_option maxHeartbeats 1000000 in
theorem specCaseOf (a : Option Addr) (cap : Nat) (l : List Int) (w : World) (h : Ints w a l) (hl : l.length ≤ 100) (hb : ∀ n ∈ l, 0 ≤ n ∧ n ≤ 5) :
    Calls Tryz.prog 161 #[.slice a l.length cap] w fun e w' => e = .returned (.int .i64 (cas.caseOf l)) ∧ w = w' := by
  match l, h, hl, hb with
  | [], h, hl, hb =>
    go_enter Tryz.func161, Tryz.ntmps161
    go_wp2_with fail
    go_ret
    exact ⟨rfl, rfl⟩
  | [n], h, hl, hb =>
    obtain ⟨x, rfl, _, cx⟩ := h 0 (by simp)
    obtain ⟨h0, h1⟩ := hb n (by simp)
    have cx' : w.cell? x = some (.int .i64 n) := by simpa [Addr.add, nth, List.getD] using cx
    have q := fun W => fix.specIn n 0 5 W
    rw [show inb n 0 5 = true by unfold inb; simp; omega] at q
    go_enter Tryz.func161, Tryz.ntmps161
    go_wp2_with fail
    refine (q _).mono ?_
    rintro e w1 ⟨rfl, rfl⟩
    go_wp2_with fail
    go_ret
    refine ⟨?_, rfl⟩
    have : cas.caseOf [n] = n + 1 := by
      unfold cas.caseOf
      rw [if_neg (by simp), if_pos (by simp [nth, List.getD]; omega)]
      simp [nth, List.getD]
    rw [this]; rfl
  | n :: m :: l, h, hl, hb =>
    have n0 : (((n :: m :: l).length : Int) == 0) = false := by simp; omega
    have n1 : (((n :: m :: l).length : Int) == 1) = false := by simp; omega
    have n0' : decide (((n :: m :: l).length : Int) = 0) = false := by simp; omega
    have n1' : decide (((n :: m :: l).length : Int) = 1) = false := by simp; omega
    have e : cas.caseOf (n :: m :: l) = 7 := by unfold cas.caseOf; rw [if_neg (by simp), if_neg (by simp)]
    rw [e]
    generalize hn : (n :: m :: l).length = z at *
    go_enter Tryz.func161, Tryz.ntmps161
    go_wp2_with fail
    go_ret
    exact ⟨rfl, rfl⟩
end Go.Proofs.YtdikhdfpcipdbaaGreatDoor.br
