/- DrawReadFrame: some text. -/
import Derived.Test.YtgilpdgomneaoaaDoorFrBend2
namespace Go.Proofs.YtgilpdgomneaoaaDoor.frm
open Go.ChangeShapes Go.WideShapes Go.ChangeAt Go.RowKit
open Go.Proofs.YtgilpdgomneaoaaDoor.nums Go.Proofs.YtgilpdgomneaoaaDoor.mem Go.Proofs.YtgilpdgomneaoaaDoor.txt Go.Proofs.YtgilpdgomneaoaaDoor.fix Go.Proofs.YtgilpdgomneaoaaDoor.cur
open Go.Proofs.YtgilpdgomneaoaaDoor.tab (Ret quiet_w wpList_make_has)
set_option linter.unusedVariables false

set_option maxRecDepth 100000 in
set_option maxHeartbeats 4000000 in
theorem drawRead (b : Option Addr) (n c : Nat) (w : World) (hn : n ≤ 4096) (hb : Bytes w w.heap.size b n) : Calls Tryd.prog 11 #[.slice b n c] w (NewT 2000 w) := by
  go_enter Tryd.func11, Tryd.ntmps11
  go_wp2_with fail
  refine (new b n c _ hn hb).mono ?_
  rintro e w1 ⟨q, rfl, hq, g1, h1⟩
  go_wp2_with fail
  refine (drawF b n c q _ hn h1).mono ?_
  rintro e w2 ⟨k, sq, vs, a, cap, rfl, hI, _, hl6, g2, h2⟩
  have g0 := gr_past g1 g2 hq
  clear g1 g2 h1
  go_wp2_with fail
  refine (specShow k sq a cap vs _ hI.ints (by unfold maxLen; omega)).mono ?_
  rintro e w3 ⟨rfl, g3⟩
  replace g0 := gr_trans g0 g3
  have h3 := h2.kept g3 (fun r e => by cases e)
  have hl := showF_small k sq vs
  clear g3 h2 hI
  generalize showF k sq vs = l at *
  go_wp2_with fail
  refine (once b n c q _ 2 hn h3 (by omega)).mono ?_
  rintro e w4 ⟨v, rfl, g4, h4⟩
  replace g0 := gr_past g0 g4 hq
  clear g4 h3
  cases v
  · go_wp2_with fail
    go_ret
    exact ⟨l, rfl, by omega, g0⟩
  · go_wp2_with fail
    refine (bend b n c q l _ _ hn h4 hl (by decide) (by decide)).mono ?_
    rintro e w5 ⟨T, rfl, hT, g5, h5⟩
    replace g0 := gr_past g0 g5 hq
    go_wp2_with fail
    go_ret
    exact ⟨T, rfl, hT, g0⟩
end Go.Proofs.YtgilpdgomneaoaaDoor.frm
