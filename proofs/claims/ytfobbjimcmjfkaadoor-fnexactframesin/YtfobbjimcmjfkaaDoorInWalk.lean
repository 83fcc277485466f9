/- The law FnExactFramesIn. -/
import Derived.Test.YtfobbjimcmjfkaaDoorStImpl
namespace Go.Proofs.YtfobbjimcmjfkaaDoor.stm
open Go.ChangeShapes Go.WideShapes Go.ChangeAt Go.RowKit
open Go.Proofs.YtfobbjimcmjfkaaDoor.nums Go.Proofs.YtfobbjimcmjfkaaDoor.mem Go.Proofs.YtfobbjimcmjfkaaDoor.txt Go.Proofs.YtfobbjimcmjfkaaDoor.fix Go.Proofs.YtfobbjimcmjfkaaDoor.frm
open Go.Proofs.YtfobbjimcmjfkaaDoor.tab (Ret quiet_w wpList_make_has add_off)
set_option linter.unusedVariables false

theorem frs_small {rd : List UInt8 → Option Fr} (hrd : ∀ s, IsRead s (rd s)) (s : List UInt8) : (frsOf rd s).length ≤ 50 ∧ ∀ k, k < (frsOf rd s).length → (fv (frsOf rd s) k).length ≤ 6 := by
  unfold frsOf
  split
  · exact ⟨by simp, fun k hk => by simp at hk⟩
  · exact ⟨run_len rd s, allOk_short (run_ok hrd s)⟩
theorem tot_six {fs : List Fr} (h : ∀ k, k < fs.length → (fv fs k).length ≤ 6) : ∀ i, i ≤ fs.length → tot fs i ≤ 6 * i := by
  intro i
  induction i with
  | zero => intro _; simp [tot]
  | succ i ih =>
    intro hi
    have := ih (by omega)
    have := h i (by omega)
    simp only [tot]; omega
theorem OwnFs.apart {w w' : World} {S : Nat → Prop} {a : Option Addr} {fs : List Fr} {ps : List Pl} (h : OwnFs w a fs ps) (hF : Frs w' a fs ps) {w'' : World} (hc : Chg S w' w'') (hS : ∀ b, S b → w.heap.size ≤ b) : Frs w'' a fs ps := by
  refine hc.frs hF (fun x e hl hs => ?_) (fun k x hk e hl hs => ?_)
  · have h1 := h.lt (b := x.block) (Or.inl ⟨fun e => by rw [e] at hl; simp at hl, x, e, rfl⟩)
    have := hS _ hs
    omega
  · have h1 := h.lt (b := x.block) (Or.inr ⟨k, hk, fun e => by rw [e] at hl; simp at hl, x, e, rfl⟩)
    have := hS _ hs
    omega

set_option maxRecDepth 100000 in
set_option maxHeartbeats 8000000 in
theorem inLaw (a0 : List UInt8) (w : World) (w0 : a0.length ≤ maxLen) (hv : Vals w) (hp : Pow w) :
    Calls Tryd.prog 5 #[.string ⟨a0.toArray⟩] w fun e w' => e = .returned (.bool true) ∧ Below w.heap.size w w' := by
  have hm : a0.length ≤ 9223372036854775807 := by unfold maxLen at w0; exact w0
  by_cases hbig : a0.length > 1048576
  · go_enter Tryd.func5, Tryd.ntmps5
    go_wp2_with fail
    all_goals go_ret
    all_goals exact ⟨rfl, Below.refl _ _⟩
  · obtain ⟨rd, hrd⟩ := rd_ex
    obtain ⟨h50, h6⟩ := frs_small hrd a0
    have cS := fun W => specIn_ rd hrd a0 W (by omega)
    have cI := fun W hV hP => implIn rd hrd a0 W (by omega) hV hP
    have hmp : mpos (frsOf rd a0) (frsOf rd a0).length ≤ 5000000 := by
      have := tot_six h6 _ (Nat.le_refl _)
      rw [mpos_tot]; omega
    generalize frsOf rd a0 = fs at *
    generalize rstOf rd a0 = r at *
    have h6' : ∀ k, k < fs.length → (fv fs k).length ≤ 1048576 := fun k hk => by have := h6 k hk; omega
    have cE := fun A C P A' C' P' W hW hW' => eqFrames A A' C C' fs P P' W hW hW' (by omega) h6'
    clear hrd h6 h6'
    go_enter Tryd.func5, Tryd.ntmps5
    go_wp2_with fail
    refine (cS _).mono ?_
    rintro e w1 ⟨aw, cw, pw_, rfl, g0, oW, -⟩
    have fW := oW.frs
    go_wp2_with fail
    refine (cI _ (hv.kept g0) (Pow.kept hp g0)).mono ?_
    rintro e w2 ⟨ag, cg, pg, rfl, g2, oG, bG, -, -⟩
    replace fW := fW.kept g2
    have hws := g0.size
    replace g0 := gr_trans g0 g2
    clear g2 cS
    go_wp2_with fail
    refine (cE _ _ _ _ _ _ _ oG.frs fW).mono ?_
    rintro e w3 ⟨rfl, g3⟩
    replace fW := fW.kept g3
    replace oG := oG.kept g3
    replace g0 := gr_trans g0 g3
    clear g3
    go_wp2_with fail
    refine (markS _ _ fs pg _ oG hmp).mono ?_
    rintro e w4 ⟨rfl, ch4, fM⟩
    replace fW := oW.apart fW ch4 bG
    replace g0 := Chg.gr g0 ch4 (fun b hb => by have := bG b hb; omega)
    clear ch4 oG
    go_wp2_with fail
    refine (heldS _ _ fs pg _ fM hmp).mono ?_
    rintro e w5 ⟨rfl, g5⟩
    replace fW := fW.kept g5
    replace fM := fM.kept g5
    replace g0 := gr_trans g0 g5
    clear g5
    have n1 : decide (((mpos fs fs.length : Nat) : Int) < 0) = false := by simp
    go_wp2_with fail
    refine (cI _ (hv.kept g0) (Pow.kept hp g0)).mono ?_
    rintro e w6 ⟨ah, ch, ph, rfl, g6, oH, -⟩
    replace fW := fW.kept g6
    replace fM := fM.kept g6
    replace g0 := gr_trans g0 g6
    clear g6
    go_wp2_with fail
    refine (cE _ _ _ _ _ _ _ oH.frs fW).mono ?_
    rintro e w7 ⟨rfl, g7⟩
    replace fM := fM.kept g7
    replace g0 := gr_trans g0 g7
    clear g7
    go_wp2_with fail
    refine (heldS _ _ fs pg _ fM hmp).mono ?_
    rintro e w8 ⟨rfl, g8⟩
    go_wp2_with fail
    go_ret
    exact ⟨rfl, below_of_none (gr_trans g0 g8)⟩
end Go.Proofs.YtfobbjimcmjfkaaDoor.stm
