/- The law FnExactReadFrame. -/
import Derived.Test.YtgilpdgomneaoaaDoorFrMark
namespace Go.Proofs.YtgilpdgomneaoaaDoor.frm
open Go.ChangeShapes Go.WideShapes Go.ChangeAt Go.RowKit
open Go.Proofs.YtgilpdgomneaoaaDoor.nums Go.Proofs.YtgilpdgomneaoaaDoor.mem Go.Proofs.YtgilpdgomneaoaaDoor.txt Go.Proofs.YtgilpdgomneaoaaDoor.fix
open Go.Proofs.YtgilpdgomneaoaaDoor.tab (Ret quiet_w wpList_make_has)
set_option linter.unusedVariables false

set_option maxRecDepth 100000 in
set_option maxHeartbeats 4000000 in
theorem readLaw (a0 : List UInt8) (w : World) (w0 : a0.length ≤ maxLen) (hv : Vals w) (hp : Pow w) :
    Calls Tryd.prog 7 #[.string ⟨a0.toArray⟩] w fun e w' => e = .returned (.bool true) ∧ Below w.heap.size w w' := by
  have hm : a0.length ≤ 9223372036854775807 := by unfold maxLen at w0; exact w0
  by_cases hbig : a0.length > 1048576
  · go_enter Tryd.func7, Tryd.ntmps7
    go_wp2_with fail
    all_goals go_ret
    all_goals exact ⟨rfl, Below.refl _ _⟩
  · obtain ⟨r, hr⟩ := isRead_ex a0
    obtain ⟨⟨kd, sq, vs, is⟩, hd⟩ : ∃ q, dec r = q := ⟨_, rfl⟩
    have h6 := dec_len hr hd
    have cS := fun W => (specRead a0 r W (by omega) hr).mono fun e w' h => ReadOut.got h hd
    have cI := fun W hV hP => (implRead a0 r W (by omega) hr hV hP).mono fun e w' h => ReadOut.got h hd
    clear hr hd
    go_enter Tryd.func7, Tryd.ntmps7
    go_wp2_with fail
    refine (cS _).mono ?_
    rintro e w1 ⟨aw, cw, rfl, oW, g0⟩
    have hsw := g0.size
    have HW := Has.fresh w1 26 #[.int .i64 kd, .int .i64 sq, .slice aw vs.length cw]
    replace g0 := gr_alloc g0 (Obj.cells #[.int .i64 kd, .int .i64 sq, .slice aw vs.length cw] 26)
    have iW := (oW.kept (World.grownBy_alloc w1 (Obj.cells #[.int .i64 kd, .int .i64 sq, .slice aw vs.length cw] 26) none)).ints
    have hwb : ∀ x : Addr, aw = some x → 0 < vs.length → x.block < w1.heap.size := fun x e hp => by
      obtain ⟨y, ey, hy, _⟩ := oW.ints 0 hp
      rw [ey] at e; injection e with e; subst e; exact hy
    clear oW
    have hs1 : (w1.alloc (Obj.cells #[.int .i64 kd, .int .i64 sq, .slice aw vs.length cw] 26)).heap.size = w1.heap.size + 1 := by simp
    go_wp2_with fail
    refine (cI _ (hv.kept g0) (Pow.kept hp g0)).mono ?_
    rintro e w2 ⟨ag, cg, rfl, oG, g2⟩
    rw [hs1] at oG
    have HG := Has.fresh w2 26 #[.int .i64 kd, .int .i64 sq, .slice ag vs.length cg]
    have a2 := World.grownBy_alloc w2 (Obj.cells #[.int .i64 kd, .int .i64 sq, .slice ag vs.length cg] 26) none
    replace g2 := gr_trans g2 a2
    replace oG := oG.kept a2
    replace HW := HW.grown g2 (by simp)
    replace iW := iW.kept g2
    replace g0 := gr_trans g0 g2
    have hww : w.heap.size ≤ w1.heap.size := hsw
    have hs2 : w1.heap.size + 1 ≤ w2.heap.size + 1 := by have := g2.size; rw [hs1] at this; simpa using this
    clear a2 g2 hs1
    obtain ⟨b0, b1, b2, _, _, _⟩ := three HW
    obtain ⟨c0, c1, c2, _, _, _⟩ := three HG
    generalize hbw : w1.heap.size = bw at *
    generalize hbg : w2.heap.size = bg at *
    go_wp2_with fail
    refine (eqFrame kd sq _ _ _ _ vs _ oG.ints iW (by unfold maxLen; omega)).mono ?_
    rintro e w4 ⟨rfl, g4⟩
    replace HW := HW.grown g4 (by simp)
    replace HG := HG.grown g4 (by simp)
    replace iW := iW.kept g4
    replace oG := oG.kept g4
    replace g0 := gr_trans g0 g4
    have hs4 : bg + 1 ≤ w4.heap.size := by have := g4.size; simp at this; omega
    clear g4 b0 b1 b2 c0 c1 c2
    obtain ⟨b0, b1, b2, _, _, _⟩ := three HW
    obtain ⟨c0, c1, c2, _, _, _⟩ := three HG
    go_wp2_with fail
    refine (markFrame (bw + 1) kd sq ag cg vs _ oG (by omega) (by omega)).mono ?_
    rintro e w5 ⟨rfl, ⟨row, g5, hq⟩, oM⟩
    have hws : w.heap.size ≤ bw + 1 := by omega
    replace HW := Has.marked HW g5 hq (Or.inr (by decide))
    replace HG := Has.marked HG g5 hq (Or.inr (by decide))
    replace g0 := gr_marked g0 g5 hq hws
    replace iW : Ints w5 aw vs := by
      cases hvs : vs with
      | nil => exact Ints.nil _ _
      | cons v vs' =>
        rw [← hvs]
        refine iW.grown g5 (fun x e er => ?_)
        have h1 := hwb x e (by rw [hvs]; simp)
        have h2 := (hq _ er.symm).1
        omega
    have hs5 : bg + 1 ≤ w5.heap.size := Nat.le_trans hs4 g5.size
    clear g5 hq b0 b1 b2 c0 c1 c2 oG hs4
    obtain ⟨b0, b1, b2, _, _, _⟩ := three HW
    obtain ⟨c0, c1, c2, _, _, _⟩ := three HG
    go_wp2_with fail
    refine (heldFrame kd sq ag cg vs.length _ oM.ints (by omega)).mono ?_
    rintro e w6 ⟨rfl, g6⟩
    replace HW := HW.grown g6 (by simp)
    replace HG := HG.grown g6 (by simp)
    replace iW := iW.kept g6
    replace oM := oM.kept g6
    replace g0 := gr_trans g0 g6
    clear g6 b0 b1 b2 c0 c1 c2
    have n1 : decide ((vs.length : Int) + 1 < 0) = false := by simp; omega
    go_wp2_with fail
    refine (cI _ (hv.kept g0) (Pow.kept hp g0)).mono ?_
    rintro e w7 ⟨ah, ch, rfl, oH, g7⟩
    have HH := Has.fresh w7 26 #[.int .i64 kd, .int .i64 sq, .slice ah vs.length ch]
    have a7 := World.grownBy_alloc w7 (Obj.cells #[.int .i64 kd, .int .i64 sq, .slice ah vs.length ch] 26) none
    replace oH := oH.kept a7
    replace g7 := gr_trans g7 a7
    replace HW := HW.grown g7 (by simp)
    replace HG := HG.grown g7 (by simp)
    replace iW := iW.kept g7
    replace oM := oM.kept g7
    replace g0 := gr_trans g0 g7
    clear g7 a7
    obtain ⟨b0, b1, b2, _, _, _⟩ := three HW
    obtain ⟨d0, d1, d2, _, _, _⟩ := three HH
    go_wp2_with fail
    refine (eqFrame kd sq _ _ _ _ vs _ oH.ints iW (by unfold maxLen; omega)).mono ?_
    rintro e w8 ⟨rfl, g8⟩
    replace HG := HG.grown g8 (by simp)
    replace oM := oM.kept g8
    replace g0 := gr_trans g0 g8
    clear g8 b0 b1 b2 d0 d1 d2
    obtain ⟨c0, c1, c2, _, _, _⟩ := three HG
    go_wp2_with fail
    refine (heldFrame kd sq ag cg vs.length _ oM.ints (by omega)).mono ?_
    rintro e w9 ⟨rfl, g9⟩
    go_wp2_with fail
    go_ret
    exact ⟨rfl, below_of_none (gr_trans g0 g9)⟩
end Go.Proofs.YtgilpdgomneaoaaDoor.frm
