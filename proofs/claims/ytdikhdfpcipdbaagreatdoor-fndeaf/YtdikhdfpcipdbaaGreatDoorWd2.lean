/- Chapter 18 of the model: WorldOk at a right world, NewWorld, l18Copy. -/
import Derived.Test.YtdikhdfpcipdbaaGreatDoorWd
import Derived.Test.YtdikhdfpcipdbaaGreatDoorBo
import Derived.Test.YtdikhdfpcipdbaaGreatDoorBrNew
import Derived.Test.YtdikhdfpcipdbaaGreatDoorBrCopy
namespace Go.Proofs.YtdikhdfpcipdbaaGreatDoor.wd
open Go.ChangeShapes Go.WideShapes Go.ChangeAt Go.RowKit
open Go.Proofs.YtdikhdfpcipdbaaGreatDoor.nums Go.Proofs.YtdikhdfpcipdbaaGreatDoor.mem
open Go.Proofs.YtdikhdfpcipdbaaGreatDoor.tab (Ret)
open Go.Proofs.YtdikhdfpcipdbaaGreatDoor.br (B P OkB Arg OwnB str bv)
set_option linter.unusedVariables false

theorem body_of {x : V} (h : OkW x) : bo.bodyOk x.he x.ri x.sp = true := bo.ok_iff.2 ⟨h.he, h.ri, h.sp⟩
theorem inb_of {x l h : Int} (k : l ≤ x ∧ x ≤ h) : inb x l h = true := by unfold inb; simp; omega

set_option maxRecDepth 100000 in
set_option maxHeartbeats 4000000 in
theorem specWorldOk (x : V) (p : P) (w : World) (h : Arg w x.br p) (ho : OkW x) : Calls Tryz.prog 109 #[wv x p] w (Ret (.bool true) w) := by
  have K := Has.fresh w 92 (cs23 x p)
  have G := World.grownBy_alloc w (Obj.cells (cs23 x p) 92) none
  have q1 := fun W k => br.specBrainOk x.br p W k ho.br
  have q2 := fun W => bo.specBodyOk x.he x.ri x.sp W
  rw [body_of ho] at q2
  have q3 := fun W => fix.specIn x.bk 0 63 W
  rw [inb_of ho.bk] at q3
  have q4 := fun W => fix.specIn x.li (-1) 2 W
  rw [inb_of ho.li] at q4
  have q5 := fun W => fix.specSizeOk x.ly W
  rw [inb_of ho.ly] at q5
  have q6 := fun W => md.specWant x.wa W
  rw [inb_of ho.wa] at q6
  have q7 := fun W => fix.specIn x.sq 0 99 W
  rw [inb_of ho.sq] at q7
  have q8 := fun W => fix.specIn x.lo 0 100 W
  rw [inb_of ho.lo] at q8
  clear ho
  obtain ⟨c0, c1, c2, c3, c4, c5, c6, c7, c8, c9, c10, c11, c12, c13, c14, c15, c16, c17, c18, c19, c20, c21, c22⟩ := cells K
  go_enter Tryz.func109, Tryz.ntmps109
  go_wp2_with fail
  refine (q1 _ (h.kept G)).mono ?_
  rintro e w1 ⟨rfl, r⟩
  replace K := K.grown r (by simp)
  replace G := gr_trans G r
  clear c0 c1 c2 c3 c4 c5 c6 c7 c8 c9 c10 c11 c12 c13 c14 c15 c16 c17 c18 c19 c20 c21 c22 r q1
  obtain ⟨c0, c1, c2, c3, c4, c5, c6, c7, c8, c9, c10, c11, c12, c13, c14, c15, c16, c17, c18, c19, c20, c21, c22⟩ := cells K
  go_wp2_with fail
  refine (q2 _).mono ?_
  rintro e w2 ⟨rfl, r⟩
  replace K := K.grown r (by simp)
  replace G := gr_trans G r
  clear c0 c1 c2 c3 c4 c5 c6 c7 c8 c9 c10 c11 c12 c13 c14 c15 c16 c17 c18 c19 c20 c21 c22 r q2
  obtain ⟨c0, c1, c2, c3, c4, c5, c6, c7, c8, c9, c10, c11, c12, c13, c14, c15, c16, c17, c18, c19, c20, c21, c22⟩ := cells K
  go_wp2_with fail
  refine (q3 _).mono ?_
  rintro e w3 ⟨rfl, rfl⟩
  go_wp2_with fail
  refine (q4 _).mono ?_
  rintro e w3 ⟨rfl, rfl⟩
  go_wp2_with fail
  refine (q5 _).mono ?_
  rintro e w3 ⟨rfl, rfl⟩
  go_wp2_with fail
  refine (q6 _).mono ?_
  rintro e w3 ⟨rfl, rfl⟩
  go_wp2_with fail
  refine (q7 _).mono ?_
  rintro e w3 ⟨rfl, rfl⟩
  go_wp2_with fail
  refine (q8 _).mono ?_
  rintro e w3 ⟨rfl, rfl⟩
  go_wp2_with fail
  go_ret
  exact ⟨rfl, G⟩
end Go.Proofs.YtdikhdfpcipdbaaGreatDoor.wd
