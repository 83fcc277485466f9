/- The program's TableOk whole; IsRising, At and GreatestY. -/
import Derived.Test.YtgclhjfjoiiclaaTabImpl2
namespace Go.Proofs.Ytgclhjfjoiiclaa.tab
open Go.ChangeShapes Go.WideShapes Go.ChangeAt Go.RowKit Go.Shelf
open Go.Proofs.Ytgclhjfjoiiclaa.nums Go.Proofs.Ytgclhjfjoiiclaa.mem
set_option linter.unusedVariables false
attribute [local go_sem] Oper.semAt_some

theorem implTableOk (g cap : Nat) (ps : Pts) (w : World) (hT : Tab w g ps) : Calls Try.prog 57 #[.slice (some ⟨g, 0, none⟩) ps.length cap] w (Ret (.bool (okB ps)) w) := by
  by_cases h : ps.length < 2 ∨ 8 < ps.length
  · exact implTableOk_short g cap ps w h
  · by_cases hs : szB ps 0 = true
    · exact callsIn_wide.1 (implTableOk_in Fence.wide 3 rfl (Lib.hid rfl) (Nat.le_refl _) trivial trivial trivial trivial (fun n ps k w => callsIn_wide.2 (implPointOk ps k w)) g cap ps w hT (by omega) (by omega) hs)
    · exact implTableOk_first g cap ps w hT (by omega) (by omega) (by simpa using hs)

end Go.Proofs.Ytgclhjfjoiiclaa.tab
