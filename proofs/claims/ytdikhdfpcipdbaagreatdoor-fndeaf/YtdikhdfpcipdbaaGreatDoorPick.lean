/- A choice out of the bytes of a draw. -/
import Derived.Test.YtdikhdfpcipdbaaGreatDoorCur2
namespace Go.Proofs.YtdikhdfpcipdbaaGreatDoor.cur
open Go.ChangeShapes Go.WideShapes Go.ChangeAt Go.RowKit
open Go.Proofs.YtdikhdfpcipdbaaGreatDoor.nums Go.Proofs.YtdikhdfpcipdbaaGreatDoor.mem
set_option linter.unusedVariables false

theorem bytes_grown {w w' : World} {b : Option Addr} {n : Nat} (h : Bytes w w.heap.size b n) (hg : w.grownBy w' none) : Bytes w' w'.heap.size b n :=
  (h.below (Nat.le_refl _) (below_of_none hg)).more hg.size

set_option maxHeartbeats 1000000 in
theorem pick (b : Option Addr) (n c q : Nat) (s m : Int) (w : World) (hn : n ≤ 4096) (hb : Bytes w q b n) (hs0 : 0 ≤ s) (hs1 : s ≤ 1000) (hm : 1 ≤ m) (hm2 : m ≤ 1000000) :
    Calls Tryz.prog 19 #[.slice b n c, .int .i64 s, .int .i64 m] w fun e w' => ∃ r : Int, 0 ≤ r ∧ r < m ∧ e = .returned (.int .i64 r) ∧ w = w' := by
  go_enter Tryz.func19, Tryz.ntmps19
  go_wp2_with fail
  go_loopw [7, 8] (fun k i wr => w = wr ∧ ∃ (j : Nat) (v : Int), j ≤ n ∧ i = .int .i64 j ∧ k = .int .i64 v ∧ 0 ≤ v ∧ v ≤ 20000000) (fun k i _ => n - (intOf i).toNat)
  case atStart => exact ⟨rfl, 0, _, Nat.zero_le _, rfl, rfl, by omega, by omega⟩
  case round =>
    obtain ⟨rfl, j, v, hj, rfl, rfl, hv0, hv1⟩ := hrel
    by_cases hlt : j < n
    · obtain ⟨x, z, rfl, hx, hz, hz0, hz1⟩ := hb j hlt
      go_wp2_with fail
      go_roundw
      case rel => exact ⟨trivial, j + 1, _, by omega, by go_num, rfl, by omega, by omega⟩
      case measure => simp [intOf]; omega
    · obtain rfl : j = n := by omega
      go_wp2_with fail
      go_ret
      exact ⟨v % m, Int.emod_nonneg _ (by omega), Int.emod_lt_of_pos _ (by omega), rfl, rfl⟩
end Go.Proofs.YtdikhdfpcipdbaaGreatDoor.cur
