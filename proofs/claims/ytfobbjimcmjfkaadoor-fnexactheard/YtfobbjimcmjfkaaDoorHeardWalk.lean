/- The law FnExactHeard. -/
import Derived.Test.YtfobbjimcmjfkaaDoorStHeardI
namespace Go.Proofs.YtfobbjimcmjfkaaDoor.stm
open Go.ChangeShapes Go.WideShapes Go.ChangeAt Go.RowKit
open Go.Proofs.YtfobbjimcmjfkaaDoor.nums Go.Proofs.YtfobbjimcmjfkaaDoor.mem Go.Proofs.YtfobbjimcmjfkaaDoor.txt Go.Proofs.YtfobbjimcmjfkaaDoor.fix Go.Proofs.YtfobbjimcmjfkaaDoor.frm
open Go.Proofs.YtfobbjimcmjfkaaDoor.tab (Ret quiet_w wpList_make_has add_off)
set_option linter.unusedVariables false

theorem heard_len {kind old : Int} {fs : List Fr} {k sq : Int} {vs : List Int} {is : Bool} (hd : dec (heard kind old fs) = (k, sq, vs, is)) : vs.length ≤ 6 := by
  cases hr : heard kind old fs with
  | none =>
    rw [hr] at hd
    simp only [dec, Prod.mk.injEq] at hd
    rw [← hd.2.2.1]; simp
  | some f =>
    rw [hr] at hd
    obtain ⟨k', sq', vs'⟩ := f
    simp only [dec, Prod.mk.injEq] at hd
    rw [← hd.2.2.1]
    exact okF_short (hfold_ok kind old fs fs.length _ hr).1
theorem Chg.ownE {S : Nat → Prop} {base : Nat} {w w' : World} {a : Option Addr} {vs : List Int} (h : Chg S w w') (H : OwnE base w a vs) (hn : ∀ b, base ≤ b → ¬ S b) : OwnE base w' a vs := by
  rcases H with rfl | ⟨g, o, cs, ha, hb, hc, hj⟩
  · exact Or.inl rfl
  · exact Or.inr ⟨g, o, cs, ha, hb, h.has hc (hn g hb), hj⟩
theorem ownE_lt {base : Nat} {w : World} {a : Option Addr} {vs : List Int} (h : OwnE base w a vs) : ∀ x : Addr, a = some x → 0 < vs.length → x.block < w.heap.size := fun x e hp => by
  obtain ⟨y, ey, hy, _⟩ := h.ints 0 hp
  rw [ey] at e; injection e with e; subst e; exact hy

set_option maxRecDepth 100000 in
set_option maxHeartbeats 8000000 in
theorem heardLaw (a0 : Option Addr) (cap0 : Nat) (fs : List Fr) (ps : List Pl) (kind old : Int) (w : World) (h : Frs w a0 fs ps) (hl : fs.length ≤ maxLen) (hv : ∀ k, k < fs.length → (fv fs k).length ≤ maxLen) (hV : Vals w) :
    Calls Tryd.prog 6 #[.slice a0 fs.length cap0, .int .i64 kind, .int .i64 old] w fun e w' => e = .returned (.bool true) ∧ Below w.heap.size w w' := by
  have cZ := szS a0 cap0 fs ps w h hl hv
  clear hl hv
  go_enter Tryd.func6, Tryd.ntmps6
  go_wp2_with fail
  refine cZ.mono ?_
  rintro e w0 ⟨left, rfl, g0, hleft⟩
  clear cZ
  rcases hleft with rfl | ⟨hl0, hl1, htot⟩
  · go_wp2_with fail
    go_ret
    exact ⟨rfl, below_of_none g0⟩
  · have n0 : decide (left < 0) = false := by simp; omega
    obtain ⟨⟨kd, sq, vs, is⟩, hd⟩ : ∃ q, dec (heard kind old fs) = q := ⟨_, rfl⟩
    have h6 := heard_len hd
    have hfl : fs.length ≤ 1048576 := by omega
    have hfv : ∀ k, k < fs.length → (fv fs k).length ≤ 1048576 := fun k hk => by have := tot_one hk; omega
    have hmp : mpos fs fs.length ≤ 5000000 := by rw [mpos_tot]; omega
    have cT := fun W hW => toS a0 cap0 fs ps W hW htot
    have cS := fun A C P W hW => (specHeard A C fs P kind old W hW hfl hfv).mono fun e w' h => ReadOut.got h hd
    have cI := fun A C P W hVW hW => (implHeard A C fs P kind old W hVW hW hfl hfv).mono fun e w' h => ReadOut.got h hd
    have cE := fun A C P A' C' P' W hW hW' => eqFrames A A' C C' fs P P' W hW hW' hfl hfv
    clear hd hfv htot
    go_wp2_with fail
    refine (cT _ (h.kept g0)).mono ?_
    rintro e w1 ⟨gA, pA, rfl, g1, oA, -⟩
    replace g0 := gr_trans g0 g1
    clear g1
    go_wp2_with fail
    refine (cS _ _ _ _ oA.frs).mono ?_
    rintro e w2 ⟨aw, cw, rfl, oW, g2⟩
    replace g0 := gr_trans g0 g2
    clear g2 oA cS
    have HW := Has.fresh w2 37 #[.int .i64 kd, .int .i64 sq, .slice aw vs.length cw]
    have hwb := ownE_lt oW
    have a2 := World.grownBy_alloc w2 (Obj.cells #[.int .i64 kd, .int .i64 sq, .slice aw vs.length cw] 37) none
    replace g0 := gr_trans g0 a2
    have iW := (oW.kept a2).ints
    have hs2 : (w2.alloc (Obj.cells #[.int .i64 kd, .int .i64 sq, .slice aw vs.length cw] 37)).heap.size = w2.heap.size + 1 := by simp
    have hww : w.heap.size ≤ w2.heap.size + 1 := by have := g0.size; rw [hs2] at this; exact this
    clear a2 oW
    go_wp2_with fail
    refine (cT _ (h.kept g0)).mono ?_
    rintro e w3 ⟨gX, pX, rfl, g3, oX, bX⟩
    rw [hs2] at bX
    replace HW := HW.grown g3 (by simp)
    replace iW := iW.kept g3
    replace g0 := gr_trans g0 g3
    have hs3 : w2.heap.size + 1 ≤ w3.heap.size := by have := g3.size; rw [hs2] at this; exact this
    have tX : ∀ b, blkF (some ⟨gX, 0, none⟩) fs pX b → b < w3.heap.size := fun b hb => oX.lt hb
    clear g3 hs2
    go_wp2_with fail
    refine (cI _ _ _ _ (hV.kept g0) oX.frs).mono ?_
    rintro e w4 ⟨ag, cg, rfl, oG, g4⟩
    have HG := Has.fresh w4 37 #[.int .i64 kd, .int .i64 sq, .slice ag vs.length cg]
    have a4 := World.grownBy_alloc w4 (Obj.cells #[.int .i64 kd, .int .i64 sq, .slice ag vs.length cg] 37) none
    have hs4 := g4.size
    replace g4 := gr_trans g4 a4
    replace oG := oG.kept a4
    replace HW := HW.grown g4 (by simp)
    replace iW := iW.kept g4
    replace oX := oX.kept g4
    replace g0 := gr_trans g0 g4
    clear a4 g4
    obtain ⟨b0, b1, b2, _, _, _⟩ := three HW
    obtain ⟨c0, c1, c2, _, _, _⟩ := three HG
    generalize hbw : w2.heap.size = bw at *
    generalize hbx : w3.heap.size = bx at *
    generalize hbg : w4.heap.size = bg at *
    have hs5 : bg + 1 ≤ (w4.alloc (Obj.cells #[.int .i64 kd, .int .i64 sq, .slice ag vs.length cg] 37)).heap.size := by simp; omega
    go_wp2_with fail
    refine (eqFrame kd sq _ _ _ _ vs _ oG.ints iW (by unfold maxLen; omega)).mono ?_
    rintro e w5 ⟨rfl, g5⟩
    replace HW := HW.grown g5 (by simp)
    replace HG := HG.grown g5 (by simp)
    replace iW := iW.kept g5
    replace oG := oG.kept g5
    replace oX := oX.kept g5
    replace g0 := gr_trans g0 g5
    replace hs5 := Nat.le_trans hs5 g5.size
    clear g5 b0 b1 b2 c0 c1 c2
    go_wp2_with fail
    refine (cT _ (h.kept g0)).mono ?_
    rintro e w6 ⟨gY, pY, rfl, g6, oY, -⟩
    replace HW := HW.grown g6 (by simp)
    replace HG := HG.grown g6 (by simp)
    replace iW := iW.kept g6
    replace oG := oG.kept g6
    replace oX := oX.kept g6
    replace g0 := gr_trans g0 g6
    replace hs5 := Nat.le_trans hs5 g6.size
    clear g6
    go_wp2_with fail
    refine (cE _ _ _ _ _ _ _ oX.frs oY.frs).mono ?_
    rintro e w7 ⟨rfl, g7⟩
    replace HW := HW.grown g7 (by simp)
    replace HG := HG.grown g7 (by simp)
    replace iW := iW.kept g7
    replace oG := oG.kept g7
    replace oX := oX.kept g7
    replace g0 := gr_trans g0 g7
    replace hs5 := Nat.le_trans hs5 g7.size
    clear g7 oY cE
    go_wp2_with fail
    refine (markS _ _ fs pX _ oX hmp).mono ?_
    rintro e w8 ⟨rfl, ch8, -⟩
    replace HW := ch8.has HW (fun hb => by have := bX _ hb; omega)
    replace HG := ch8.has HG (fun hb => by have := tX _ hb; omega)
    replace iW := ch8.ints iW (fun x e hp hb => by have := bX _ hb; have := hwb x e hp; omega)
    replace oG := ch8.ownE oG (fun b hb hS => by have := tX _ hS; omega)
    replace g0 := Chg.gr g0 ch8 (fun b hb => by have := bX _ hb; omega)
    replace hs5 := Nat.le_trans hs5 ch8.size
    clear ch8 oX bX tX
    obtain ⟨b0, b1, b2, _, _, _⟩ := three HW
    obtain ⟨c0, c1, c2, _, _, _⟩ := three HG
    have n1 : decide (((mpos fs fs.length : Nat) : Int) < 0) = false := by simp
    go_wp2_with fail
    refine (eqFrame kd sq _ _ _ _ vs _ oG.ints iW (by unfold maxLen; omega)).mono ?_
    rintro e w9 ⟨rfl, g9⟩
    replace HW := HW.grown g9 (by simp)
    replace HG := HG.grown g9 (by simp)
    replace iW := iW.kept g9
    replace oG := oG.kept g9
    replace g0 := gr_trans g0 g9
    replace hs5 := Nat.le_trans hs5 g9.size
    clear g9 b0 b1 b2 c0 c1 c2
    obtain ⟨c0, c1, c2, _, _, _⟩ := three HG
    go_wp2_with fail
    refine (markFrame bx kd sq ag cg vs _ oG (by omega) (by omega)).mono ?_
    rintro e w10 ⟨rfl, ⟨row, g10, hq⟩, oM⟩
    replace HW := Has.marked HW g10 hq (Or.inr (by decide))
    replace HG := Has.marked HG g10 hq (Or.inr (by decide))
    replace g0 := gr_marked g0 g10 hq (by omega)
    replace iW : Ints w10 aw vs := by
      cases hvs : vs with
      | nil => exact Ints.nil _ _
      | cons v vs' =>
        rw [← hvs]
        refine iW.grown g10 (fun x e er => ?_)
        have h1 := hwb x e (by rw [hvs]; simp)
        have h2 := (hq _ er.symm).1
        omega
    clear g10 hq oG c0 c1 c2
    obtain ⟨c0, c1, c2, _, _, _⟩ := three HG
    go_wp2_with fail
    refine (heldFrame kd sq ag cg vs.length _ oM.ints (by omega)).mono ?_
    rintro e w11 ⟨rfl, g11⟩
    replace HW := HW.grown g11 (by simp)
    replace HG := HG.grown g11 (by simp)
    replace iW := iW.kept g11
    replace oM := oM.kept g11
    replace g0 := gr_trans g0 g11
    clear g11 c0 c1 c2
    have n2 : decide ((vs.length : Int) + 1 < 0) = false := by simp; omega
    go_wp2_with fail
    refine (cT _ (h.kept g0)).mono ?_
    rintro e w12 ⟨gZ, pZ, rfl, g12, oZ, -⟩
    replace HW := HW.grown g12 (by simp)
    replace HG := HG.grown g12 (by simp)
    replace iW := iW.kept g12
    replace oM := oM.kept g12
    replace g0 := gr_trans g0 g12
    clear g12
    go_wp2_with fail
    refine (cI _ _ _ _ (hV.kept g0) oZ.frs).mono ?_
    rintro e w13 ⟨ah, ch, rfl, oH, g13⟩
    have HH := Has.fresh w13 37 #[.int .i64 kd, .int .i64 sq, .slice ah vs.length ch]
    have a13 := World.grownBy_alloc w13 (Obj.cells #[.int .i64 kd, .int .i64 sq, .slice ah vs.length ch] 37) none
    replace oH := oH.kept a13
    replace g13 := gr_trans g13 a13
    replace HW := HW.grown g13 (by simp)
    replace HG := HG.grown g13 (by simp)
    replace iW := iW.kept g13
    replace oM := oM.kept g13
    replace g0 := gr_trans g0 g13
    clear g13 a13 oZ
    obtain ⟨b0, b1, b2, _, _, _⟩ := three HW
    obtain ⟨d0, d1, d2, _, _, _⟩ := three HH
    go_wp2_with fail
    refine (eqFrame kd sq _ _ _ _ vs _ oH.ints iW (by unfold maxLen; omega)).mono ?_
    rintro e w14 ⟨rfl, g14⟩
    replace HG := HG.grown g14 (by simp)
    replace oM := oM.kept g14
    replace g0 := gr_trans g0 g14
    clear g14 b0 b1 b2 d0 d1 d2
    obtain ⟨c0, c1, c2, _, _, _⟩ := three HG
    go_wp2_with fail
    refine (heldFrame kd sq ag cg vs.length _ oM.ints (by omega)).mono ?_
    rintro e w15 ⟨rfl, g15⟩
    go_wp2_with fail
    go_ret
    exact ⟨rfl, below_of_none (gr_trans g0 g15)⟩
end Go.Proofs.YtfobbjimcmjfkaaDoor.stm
