/- The model of chapter 2: contracts over a table in memory. -/
import Derived.Test.YtdikhdfpcipdbaaGreatDoorTabMem
namespace Go.Proofs.YtdikhdfpcipdbaaGreatDoor.tab
open Go.ChangeShapes Go.WideShapes Go.ChangeAt Go.RowKit
open Go.Proofs.YtdikhdfpcipdbaaGreatDoor.nums Go.Proofs.YtdikhdfpcipdbaaGreatDoor.mem
set_option linter.unusedVariables false

set_option maxHeartbeats 1000000 in
theorem specTableOk (g cap : Nat) (ps : Pts) (w : World) (h : Tab w g ps) (hl : ps.length ≤ 1048576) :
    Calls Tryz.prog 196 #[.slice (some ⟨g, 0, none⟩) ps.length cap] w (Ret (.bool (okB ps)) w) := by
  go_enter Tryz.func196, Tryz.ntmps196
  go_wp2
  go_loopw [3] (fun i wr => ∃ k : Nat, k ≤ ps.length ∧ i = .int .i64 k ∧ Good ps k ∧ w.grownBy wr none) (fun i _ => ps.length - (intOf i).toNat)
  case atStart => exact ⟨0, Nat.zero_le _, rfl, Good.zero ps, gr_refl _ _⟩
  case round =>
    obtain ⟨k, hk, rfl, hG, hg⟩ := hrel
    by_cases hlt : k < ps.length
    · obtain ⟨cx, cy⟩ := (h.kept hg).2 k hlt
      by_cases hx : inb (px ps k) (-1000000) 1000000 = true
      · by_cases hy : inb (py ps k) (-1000000) 1000000 = true
        · have hs0 : szB ps k = true := by unfold szB; rw [hx, hy]; rfl
          have hs := Lib.hid hs0; clear hs0
          by_cases h0 : 0 < k
          · obtain ⟨j, rfl⟩ : ∃ j, k = j + 1 := ⟨k - 1, by omega⟩
            obtain ⟨dx, _⟩ := (h.kept hg).2 j (by omega)
            by_cases hp : px ps (j + 1) ≤ px ps j
            · have hd : decide (px ps (j + 1) ≤ px ps j) = true := by simp [hp]
              go_wp2_with fail
              go_quiet ((go_at_call 78; exact quiet_w (fix.specSizeOk _ _)))
              go_wp2_with fail
              go_ret
              exact ⟨fix.ret_bool (okB_fall hlt hp).symm, gr_drewN hg _⟩
            · have hd : decide (px ps (j + 1) ≤ px ps j) = false := by simp; omega
              go_wp2_with fail
              go_quiet ((go_at_call 78; exact quiet_w (fix.specSizeOk _ _)))
              go_wp2_with fail
              go_roundw
              case rel => exact ⟨j + 1 + 1, by omega, by go_num, hG.next hs.out (by omega), gr_drewN hg _⟩
              case measure => simp [intOf]; omega
          · have h0' : decide (0 < k) = false := by simp; omega
            go_wp2_with fail
            go_quiet ((go_at_call 78; exact quiet_w (fix.specSizeOk _ _)))
            go_wp2_with fail
            obtain rfl : k = 0 := by omega
            go_roundw
            case rel => exact ⟨1, by omega, by go_num, Good.first hs.out, gr_drewN hg _⟩
            case measure => simp [intOf]; omega
        · have hy' : inb (py ps k) (-1000000) 1000000 = false := by simpa using hy
          clear hy
          go_wp2_with fail
          go_quiet ((go_at_call 78; exact quiet_w (fix.specSizeOk _ _)))
          go_wp2_with fail
          go_ret
          exact ⟨fix.ret_bool (okB_bad hlt (by unfold szB; rw [hx, hy']; rfl)).symm, gr_drewN hg _⟩
      · have hx' : inb (px ps k) (-1000000) 1000000 = false := by simpa using hx
        clear hx
        go_wp2_with fail
        go_quiet ((go_at_call 78; exact quiet_w (fix.specSizeOk _ _)))
        go_wp2_with fail
        go_ret
        exact ⟨fix.ret_bool (okB_bad hlt (by unfold szB; rw [hx']; rfl)).symm, gr_drewN hg _⟩
    · obtain rfl : k = ps.length := by omega
      go_wp2_with (go_at_call 24; refine (fix.specIn _ _ _ _).mono ?_; rintro e w' ⟨rfl, rfl⟩)
      go_ret
      refine ⟨fix.ret_bool ?_, hg⟩
      by_cases h2 : 2 ≤ ps.length ∧ ps.length ≤ 8
      · rw [okB_true ⟨h2.1, h2.2, hG⟩]; unfold inb; simp; omega
      · rw [okB_false (fun ho => h2 ⟨ho.1, ho.2.1⟩)]; unfold inb; simp; omega
end Go.Proofs.YtdikhdfpcipdbaaGreatDoor.tab
