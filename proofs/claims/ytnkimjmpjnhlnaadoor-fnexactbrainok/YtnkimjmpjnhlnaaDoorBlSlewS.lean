/- Slewed of the model. -/
import Derived.Test.YtnkimjmpjnhlnaaDoorBlSlew
import Derived.Deep.AppendLies
import Derived.Deep.RegionHeldLaw
namespace Go.Proofs.YtnkimjmpjnhlnaaDoor.bl
open Go.ChangeShapes Go.WideShapes Go.ChangeAt Go.RowKit
open Go.Proofs.YtnkimjmpjnhlnaaDoor.nums Go.Proofs.YtnkimjmpjnhlnaaDoor.mem
open Go.Proofs.YtnkimjmpjnhlnaaDoor.qt (region_below_tail rg_ret rg_same gr_rg)
open Go.Proofs.YtnkimjmpjnhlnaaDoor.il (nth Ints vals vals_snoc RetI IRow blk blk_some blk_nil infoInt gr_own row_base)
set_option linter.unusedVariables false

set_option maxHeartbeats 1000000 in
theorem specAll (a : Option Addr) (cap : Nat) (l : List Int) (n : Int) (w : World) (h : Ints w a l) (hl : l.length ≤ maxLen) :
    Calls Tryd.prog 22 #[.slice a l.length cap, .int .i64 n, .int .i64 0, .int .i64 1000] w fun e w' => e = .returned (.bool (decide ((l.length : Int) = n) && l.all okO)) ∧ w = w' := by
  have hm : l.length ≤ 9223372036854775807 := by unfold maxLen at hl; exact hl
  clear hl
  go_enter Tryd.func22, Tryd.ntmps22
  go_wp2_with fail
  go_loopw [9] (fun i wr => wr = w ∧ ∃ k : Nat, k ≤ l.length ∧ i = .int .i64 k ∧ Hid (∀ j, j < k → okO (nth l j) = true)) (fun i _ => l.length - (intOf i).toNat)
  case atStart => exact ⟨rfl, 0, Nat.zero_le _, rfl, Lib.hid (fun j hj => by omega)⟩
  case round =>
    obtain ⟨rfl, k, hk, rfl, hs⟩ := hrel
    by_cases hlt : k < l.length
    · obtain ⟨x, rfl, hb, cx⟩ := h k hlt
      cases hz : okO (nth l k)
      · have hz' : inb (nth l k) 0 1000 = false := hz
        go_wp2_with fail
        refine (fix.specIn _ _ _ _).mono ?_
        rintro e w' ⟨rfl, rfl⟩
        go_wp2_with fail
        go_ret
        exact ⟨by rw [all_not l k hlt hz]; simp, rfl⟩
      · have hz' : inb (nth l k) 0 1000 = true := hz
        go_wp2_with fail
        refine (fix.specIn _ _ _ _).mono ?_
        rintro e w' ⟨rfl, rfl⟩
        go_wp2_with fail
        go_roundw
        case rel => exact ⟨trivial, k + 1, by omega, by go_num, Lib.hid (fun j hj => by
          by_cases e : j = k
          · subst e; exact hz
          · exact hs.out j (by omega))⟩
        case measure => simp [intOf]; omega
    · obtain rfl : k = l.length := by omega
      go_wp2_with fail
      go_ret
      refine ⟨?_, rfl⟩
      rw [all_of hs.out, Bool.and_true]
      first | rfl | simp

end Go.Proofs.YtnkimjmpjnhlnaaDoor.bl
