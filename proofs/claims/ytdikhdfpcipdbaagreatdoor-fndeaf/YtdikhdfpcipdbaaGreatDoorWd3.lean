/- Chapter 18 of the model: a new world; worlds copied. -/
import Derived.Test.YtdikhdfpcipdbaaGreatDoorWd2
import Derived.Test.YtdikhdfpcipdbaaGreatDoorWdRow
namespace Go.Proofs.YtdikhdfpcipdbaaGreatDoor.wd
open Go.ChangeShapes Go.WideShapes Go.ChangeAt Go.RowKit
open Go.Proofs.YtdikhdfpcipdbaaGreatDoor.nums Go.Proofs.YtdikhdfpcipdbaaGreatDoor.mem
open Go.Proofs.YtdikhdfpcipdbaaGreatDoor.tab (Ret)
open Go.Proofs.YtdikhdfpcipdbaaGreatDoor.br (B P OkB Arg OwnB str bv)
set_option linter.unusedVariables false

/-- So much comes back, of its own memory. -/
def RetX (x : V) (w : World) (e : Ending) (w' : World) : Prop := ∃ p, e = .returned (wv x p) ∧ w.grownBy w' none ∧ OwnB w.heap.size w' x.br p
def newV : V := ⟨br.newB, 0, 0, 0, 0, -1, 0, 0, false, 0, 0⟩
theorem ok_newV : OkW newV := ⟨br.ok_newB, ⟨Int.le_refl 0, by decide⟩, by decide, ⟨Int.le_refl 0, by decide⟩, ⟨Int.le_refl 0, by decide⟩, by decide, by decide, ⟨Int.le_refl 0, by decide⟩, ⟨Int.le_refl 0, by decide⟩, ⟨Int.le_refl 0, by decide⟩⟩
set_option maxRecDepth 100000 in
set_option maxHeartbeats 1000000 in
theorem specNewWorld (w : World) : Calls Tryz.prog 86 #[] w (RetX newV w) := by
  have cN := fun W => br.specNewBrain W
  unfold newV
  generalize br.newB = B0 at *
  have k0 := Has.fresh w 92 z23
  have G := World.grownBy_alloc w (Obj.cells z23 92) none
  go_enter Tryz.func86, Tryz.ntmps86
  go_wp2_with fail
  have hsz : w.heap.size < (w.alloc (Obj.cells z23 92)).heap.size := by simp
  generalize w.alloc (Obj.cells z23 92) = wb at *
  refine (cN _).mono ?_
  rintro e w1 ⟨p, rfl, r, O⟩
  replace G := gr_trans G r
  replace k0 := k0.grown r (by simp)
  go_wp2_with (refine st_row rfl _ _ rfl rfl w.heap.size ⟨B0, 0, 0, 0, 0, -1, 0, 0, false, 0, 0⟩ p z23 rfl rfl k0 rfl ?_; intro w2 c2 K2)
  replace O := O.low c2 hsz
  replace G := gr_past G c2 (Nat.le_refl _)
  refine bodyPost_ret (v := wv ⟨B0, 0, 0, 0, 0, -1, 0, 0, false, 0, 0⟩ p) ?_ rfl ⟨p, rfl, G, O.below (Nat.le_of_lt hsz)⟩
  exact rs_row rfl _ _ w.heap.size ⟨B0, 0, 0, 0, 0, -1, 0, 0, false, 0, 0⟩ p rfl K2

set_option maxRecDepth 100000 in
set_option maxHeartbeats 4000000 in
theorem specCopyW (x : V) (p : P) (w : World) (h : Arg w x.br p) (ho : OkW x) : Calls Tryz.prog 110 #[wv x p] w (RetX x w) := by
  have K := (Has.fresh w 92 (cs23 x p)).alloc (Obj.cells z23 92)
  have R := Has.fresh (w.alloc (Obj.cells (cs23 x p) 92)) 92 z23
  have G := gr_alloc (World.grownBy_alloc w (Obj.cells (cs23 x p) 92) none) (Obj.cells z23 92)
  simp only [World.size_alloc] at R
  have hsW : w.heap.size + 1 < ((w.alloc (Obj.cells (cs23 x p) 92)).alloc (Obj.cells z23 92)).heap.size := by simp
  have cC := fun W k => br.specCopyB x.br p W k ho.br
  clear ho
  obtain ⟨c0, c1, c2, c3, c4, c5, c6, c7, c8, c9, c10, c11, c12, c13, c14, c15, c16, c17, c18, c19, c20, c21, c22⟩ := cells K
  go_enter Tryz.func110, Tryz.ntmps110
  go_wp2_with fail
  generalize (w.alloc (Obj.cells (cs23 x p) 92)).alloc (Obj.cells z23 92) = v0 at *
  refine (cC _ (h.kept G)).mono ?_
  rintro e w1 ⟨q, rfl, r, O⟩
  replace G := gr_trans G r
  replace K := K.grown r (by simp)
  replace R := R.grown r (by simp)
  replace hsW := hsW
  clear c0 c1 c2 c3 c4 c5 c6 c7 c8 c9 c10 c11 c12 c13 c14 c15 c16 c17 c18 c19 c20 c21 c22
  go_upto_region 2 with (refine st_brain rfl _ _ rfl rfl w.heap.size x.br q x p rfl rfl K ?_; intro w2 c2 K2)
  replace O := O.low c2 (by omega)
  replace G := gr_past G c2 (Nat.le_refl _)
  replace R := R.grown c2 (by simp)
  replace hsW := hsW
  go_wp2_with (first | (refine ld_row rfl _ rfl w.heap.size x q rfl K2 ?_) | (refine st_row rfl _ _ rfl rfl (w.heap.size + 1) x q z23 rfl rfl R rfl ?_; intro w3 c3 R3))
  replace O := O.low c3 hsW
  replace G := gr_past G c3 (show w.heap.size ≤ w.heap.size + 1 by omega)
  refine bodyPost_ret (v := wv x q) ?_ rfl ⟨q, rfl, G, O.below (by omega)⟩
  exact rs_row rfl _ _ (w.heap.size + 1) x q rfl R3
end Go.Proofs.YtdikhdfpcipdbaaGreatDoor.wd
