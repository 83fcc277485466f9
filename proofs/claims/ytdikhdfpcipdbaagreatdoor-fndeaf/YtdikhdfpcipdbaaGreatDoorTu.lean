/- Chapter 18 of the model: a turn of a right world. -/
import Derived.Test.YtdikhdfpcipdbaaGreatDoorSa
import Derived.Test.YtdikhdfpcipdbaaGreatDoorBrTick
import Derived.Test.YtdikhdfpcipdbaaGreatDoorTuLit
namespace Go.Proofs.YtdikhdfpcipdbaaGreatDoor.wd
open Go.ChangeShapes Go.WideShapes Go.ChangeAt Go.RowKit
open Go.Proofs.YtdikhdfpcipdbaaGreatDoor.nums Go.Proofs.YtdikhdfpcipdbaaGreatDoor.mem
open Go.Proofs.YtdikhdfpcipdbaaGreatDoor.tab (Ret)
open Go.Proofs.YtdikhdfpcipdbaaGreatDoor.il (nth Ints)
open Go.Proofs.YtdikhdfpcipdbaaGreatDoor.br (B P OkB Arg OwnB str bv Seven)
set_option linter.unusedVariables false

theorem infoBd : (Tryz.prog.info? 90).map (·.size) = some 3 := by kernel_rfl
/-- A body is laid into a world's box. -/
theorem st_body {ops : Array Oper} {rest : List Oper} {o : Oper} {a : Act} {w : World} {Q : Exit → Act → World → Prop} (hgd : o.guard = none) (a1 a2 : Operand) (ho : o.op = .store 90 a1 a2) (hd : o.dst = none)
    (g : Nat) (h r s : Int) (x : V) (p : P) (hx : a.eval a1 = .pointer (some ⟨g, 13, none⟩)) (hy : a.eval a2 = bo.bd h r s) (H : Has w g 92 (cs23 x p))
    (k : ∀ w', w.grownBy w' (some g) → Has w' g 92 (cs23 ⟨x.br, h, r, s, x.bk, x.li, x.ly, x.wa, x.ar, x.sq, x.lo⟩ p) → wpList Tryz.prog ops Q rest a w') : wpList Tryz.prog ops Q (o :: rest) a w := by
  refine wpList_store_mid hgd _ a1 a2 ho g 13 (bo.cs3 h r s) hx hy (fun j hj => ⟨?_, H.frozen _⟩) (by rw [infoBd]; rfl) (by simp [Value.oneCell']) ?_
  · have hj' : j < 3 := hj
    rw [H.cell (13 + j)]
    rcases (show j = 0 ∨ j = 1 ∨ j = 2 by omega) with rfl | rfl | rfl <;> rfl
  · rw [hd]
    exact k _ (gr_set (gr_set (gr_set (gr_refl w (some g)) _ _) _ _) _ _) (put15 (put14 (put13 H _) _) _)
/-- What each operation ahead of the brain leaves. -/
def LeftA (z zo : Nat) (x : V) (p : P) : Nat → Value → World → Prop
  | 0, v, _ => v = .pointer (some ⟨z, 0, none⟩)
  | 1, v, _ => v = bv x.br p
  | 2, v, _ => v = wv x p
  | 3, v, _ => v = str (said x)
  | 4, v, w => ∃ b q, v = bv b q ∧ OwnB (zo + 1) w b q ∧ OkB b
  | 5, v, _ => v = .pointer (some ⟨zo, 0, none⟩)
  | _, _, _ => False
theorem LeftA.stab (z zo : Nat) (x : V) (p : P) (j : Nat) (v : Value) (w w' : World) (h : LeftA z zo x p j v w) (hg : w.grownBy w' none) : LeftA z zo x p j v w' := by
  match j, h with
  | 0, h => exact h
  | 1, h => exact h
  | 2, h => exact h
  | 3, h => exact h
  | 4, ⟨b, q, h1, h2, h3⟩ => exact ⟨b, q, h1, h2.kept hg, h3⟩
  | 5, h => exact h
/-- What each operation ahead of the body leaves. -/
def LeftB (z zo : Nat) (x y : V) (p : P) (g : Int) : Nat → Value → World → Prop
  | 0, v, _ => v = .pointer (some ⟨z, 13, none⟩)
  | 1, v, _ => v = bo.bd x.he x.ri x.sp
  | 2, v, _ => v = wv y p
  | 3, v, w => ∃ a cap, v = .slice a (realTo y.bk y.br.ou 6).length cap ∧ Ints w a (realTo y.bk y.br.ou 6)
  | 4, v, _ => v = .int .i64 g
  | 5, v, _ => v = bo.bd (bo.mvH x.he x.ri x.sp (realTo y.bk y.br.ou 6) g) (bo.mvR x.he x.ri x.sp (realTo y.bk y.br.ou 6) g) (bo.mvS x.sp (realTo y.bk y.br.ou 6))
  | 6, v, _ => v = .pointer (some ⟨zo, 13, none⟩)
  | _, _, _ => False
theorem LeftB.stab (z zo : Nat) (x y : V) (p : P) (g : Int) (j : Nat) (v : Value) (w w' : World) (h : LeftB z zo x y p g j v w) (hg : w.grownBy w' none) : LeftB z zo x y p g j v w' := by
  match j, h with
  | 0, h => exact h
  | 1, h => exact h
  | 2, h => exact h
  | 3, ⟨a, c, h1, h2⟩ => exact ⟨a, c, h1, h2.kept hg⟩
  | 4, h => exact h
  | 5, h => exact h
  | 6, h => exact h

set_option maxRecDepth 100000 in
set_option maxHeartbeats 4000000 in
theorem specTurn (x : V) (p : P) (g : Int) (w : World) (h : Arg w x.br p) (ho : OkW x) (hg1 : -1000 ≤ g) (hg2 : g ≤ 1000) : Calls Tryz.prog 123 #[wv x p, .int .i64 g] w (RetW w) := by
  have K := (Has.fresh w 92 (cs23 x p)).alloc (Obj.cells z23 92)
  have R := Has.fresh (w.alloc (Obj.cells (cs23 x p) 92)) 92 z23
  have G := gr_alloc (World.grownBy_alloc w (Obj.cells (cs23 x p) 92) none) (Obj.cells z23 92)
  simp only [World.size_alloc] at R
  have hsW : w.heap.size + 1 < ((w.alloc (Obj.cells (cs23 x p) 92)).alloc (Obj.cells z23 92)).heap.size := by simp
  have cS := fun W k => specSaid x p W k ho
  have cT := fun W k => br.specTicked x.br p (said x) W k ho.br (by have := (said_len x).2; omega)
  have HO := Lib.hid ho
  clear ho
  go_enter Tryz.func123, Tryz.ntmps123
  go_upto_region 1 with fail
  generalize (w.alloc (Obj.cells (cs23 x p) 92)).alloc (Obj.cells z23 92) = v0 at *
  go_upto_region 2 with (first | (refine ld_row rfl _ rfl w.heap.size x p rfl K ?_) | (refine st_row rfl _ _ rfl rfl v0.heap.size x p _ rfl rfl (Has.fresh v0 92 _) rfl ?_; intro v1 c1 K5))
  have G1 := gr_past (World.grownBy_alloc v0 (Obj.cells z23 92) none) c1 (Nat.le_refl _)
  replace G := gr_trans G G1
  replace K := K.grown G1 (by simp)
  replace R := R.grown G1 (by simp)
  have lz := K5.lt
  clear c1 G1
  generalize v0.heap.size = zo at *
  refine abs4 1 2 4 5 ?_ rfl rfl rfl rfl rfl rfl
  intro a0 hs0 hd0 g1 g2 g4 g5
  refine iv.region_inv (a0 := a0) 6 (fun i => i + 7) (LeftA w.heap.size zo x p) (by kernel_rfl) (by kernel_rfl) (by kernel_rfl) (by decide) (by kernel_rfl) (by kernel_rfl) (fun i j hi hj e => by simpa using e) (fun i hi => by rw [hs0]; exact (show ∀ i, i < 6 → i + 7 < 31 by decide) i hi) (LeftA.stab w.heap.size zo x p) ?_ ?_
  · intro i o a W hi ho2 hgW hsz2 hdf hold hdeps
    obtain ⟨⟨tl⟩, df⟩ := a
    have ed : df = [] := hdf.trans hd0
    subst ed
    have hlen : tl.length = 31 := hsz2.trans hs0
    clear hsz2 hdf
    refine litE31 tl hlen ?_
    clear hlen
    intro x0 x1 x2 x3 x4 x5 x6 x7 x8 x9 x10 x11 x12 x13 x14 x15 x16 x17 x18 x19 x20 x21 x22 x23 x24 x25 x26 x27 x28 x29 x30 et
    subst et
    have e : some x1 = _ := (hold 1 (fun j hj => by clear hold; revert hj j; decide)).trans g1
    injection e with e
    subst e
    have e : some x2 = _ := (hold 2 (fun j hj => by clear hold; revert hj j; decide)).trans g2
    injection e with e
    subst e
    have e : some x4 = _ := (hold 4 (fun j hj => by clear hold; revert hj j; decide)).trans g4
    injection e with e
    subst e
    have e : some x5 = _ := (hold 5 (fun j hj => by clear hold; revert hj j; decide)).trans g5
    injection e with e
    subst e
    clear hold hs0 hd0 g1 g2 g4 g5
    rcases (show i = 0 ∨ i = 1 ∨ i = 2 ∨ i = 3 ∨ i = 4 ∨ i = 5 by omega) with rfl | rfl | rfl | rfl | rfl | rfl
    all_goals simp at ho2
    all_goals subst ho2
    all_goals simp [Region.binds, LeftA] at hdeps
    · go_wp2_with fail
      exact ⟨gr_refl _ _, rfl⟩
    · subst hdeps
      obtain ⟨c0, c1, c2, c3, c4, c5, c6, c7, c8, c9, c10, c11, c12, c13, c14, c15, c16, c17, c18, c19, c20, c21, c22⟩ := cells (K.grown hgW (by simp))
      clear c13 c14 c15 c16 c17 c18 c19 c20 c21 c22
      go_wp2_with fail
      exact ⟨gr_refl _ _, rfl⟩
    · go_wp2_with (refine ld_row rfl _ rfl w.heap.size x p rfl (K.grown hgW (by simp)) ?_)
      exact ⟨gr_refl _ _, rfl⟩
    · first | subst hdeps | (obtain ⟨rfl, _⟩ := hdeps)
      go_wp2_with fail
      refine (cS _ (h.kept (gr_trans G hgW))).mono ?_
      rintro e wx ⟨rfl, r⟩
      go_wp2_with fail
      exact rfl
    · first | (obtain ⟨rfl, rfl⟩ := hdeps) | (obtain ⟨rfl, rfl, _⟩ := hdeps)
      go_wp2_with fail
      refine (cT _ (h.kept (gr_trans G hgW))).mono ?_
      rintro e wx ⟨b, q, rfl, r, O, ok⟩
      go_wp2_with fail
      exact ⟨b, q, rfl, O.below (by have := hgW.size; omega), ok⟩
    · go_wp2_with fail
      exact ⟨gr_refl _ _, rfl⟩
  · intro o W hgW hsz2 hdf hold hnew
    obtain ⟨⟨tl⟩, df⟩ := o
    have ed : df = [] := hdf.trans hd0
    subst ed
    have hlen : tl.length = 31 := hsz2.trans hs0
    clear hsz2 hdf
    refine litE31 tl hlen ?_
    clear hlen
    intro x0 x1 x2 x3 x4 x5 x6 x7 x8 x9 x10 x11 x12 x13 x14 x15 x16 x17 x18 x19 x20 x21 x22 x23 x24 x25 x26 x27 x28 x29 x30 et
    subst et
    have e : some x1 = _ := (hold 1 (fun j hj => by clear hold; revert hj j; decide)).trans g1
    injection e with e
    subst e
    have e : some x2 = _ := (hold 2 (fun j hj => by clear hold; revert hj j; decide)).trans g2
    injection e with e
    subst e
    have e : some x4 = _ := (hold 4 (fun j hj => by clear hold; revert hj j; decide)).trans g4
    injection e with e
    subst e
    have e : some x5 = _ := (hold 5 (fun j hj => by clear hold; revert hj j; decide)).trans g5
    injection e with e
    subst e
    obtain ⟨v, e, b, q, rfl, O, ok⟩ := hnew 4 (by omega)
    have e : some x11 = _ := e
    injection e with e
    subst e
    obtain ⟨v, e, rfl⟩ := hnew 5 (by omega)
    have e : some x12 = _ := e
    injection e with e
    subst e
    clear hnew hold hs0 hd0 g1 g2 g4 g5
    simp only [List.drop_succ_cons, List.drop_zero]
    replace G := gr_trans G hgW
    replace K := K.grown hgW (by simp)
    replace R := R.grown hgW (by simp)
    replace K5 := K5.grown hgW (by simp)
    clear lz hgW cS cT
    go_upto_region 3 with (refine st_brain rfl _ _ rfl rfl zo b q x p rfl rfl K5 ?_; intro v2 c2 K52)
    replace G := gr_past G c2 (by omega)
    replace K := K.grown c2 (by simp; omega)
    replace R := R.grown c2 (by simp; omega)
    replace O := O.low c2 (by omega)
    clear c2 K5
    have s7 : Seven b.ou := ⟨ok.ou7, ok.ou⟩
    have r7 := seven_real x.bk s7 6
    have cR := fun W k => specReal ⟨b, x.he, x.ri, x.sp, x.bk, x.li, x.ly, x.wa, x.ar, x.sq, x.lo⟩ q W k s7 HO.out.bk
    have cM := fun W a cap k => bo.specMoved x.he x.ri x.sp a cap (realTo x.bk b.ou 6) g W k (body_of HO.out) r7 (by omega) (by omega)
    have bM := bo.mv_in (h := x.he) (r := x.ri) (s := x.sp) (o := realTo x.bk b.ou 6) g HO.out.sp (bl.ok_bd (bl.all_at r7.2 (show 6 < (realTo x.bk b.ou 6).length by rw [r7.1]; omega)))
    refine abs4 1 2 4 5 ?_ rfl rfl rfl rfl rfl rfl
    intro a0 hs0 hd0 g1 g2 g4 g5
    refine iv.region_inv (a0 := a0) 7 (fun i => i + 13) (LeftB w.heap.size zo x ⟨b, x.he, x.ri, x.sp, x.bk, x.li, x.ly, x.wa, x.ar, x.sq, x.lo⟩ q g) (by kernel_rfl) (by kernel_rfl) (by kernel_rfl) (by decide) (by kernel_rfl) (by kernel_rfl) (fun i j hi hj e => by simpa using e) (fun i hi => by rw [hs0]; exact (show ∀ i, i < 7 → i + 13 < 31 by decide) i hi) (LeftB.stab w.heap.size zo x ⟨b, x.he, x.ri, x.sp, x.bk, x.li, x.ly, x.wa, x.ar, x.sq, x.lo⟩ q g) ?_ ?_
    · intro i o a W hi ho2 hgW hsz2 hdf hold hdeps
      obtain ⟨⟨tl⟩, df⟩ := a
      have ed : df = [] := hdf.trans hd0
      subst ed
      have hlen : tl.length = 31 := hsz2.trans hs0
      clear hsz2 hdf
      refine litE31 tl hlen ?_
      clear hlen
      intro x0 x1 x2 x3 x4 x5 x6 x7 x8 x9 x10 x11 x12 x13 x14 x15 x16 x17 x18 x19 x20 x21 x22 x23 x24 x25 x26 x27 x28 x29 x30 et
      subst et
      have e : some x1 = _ := (hold 1 (fun j hj => by clear hold; revert hj j; decide)).trans g1
      injection e with e
      subst e
      have e : some x2 = _ := (hold 2 (fun j hj => by clear hold; revert hj j; decide)).trans g2
      injection e with e
      subst e
      have e : some x4 = _ := (hold 4 (fun j hj => by clear hold; revert hj j; decide)).trans g4
      injection e with e
      subst e
      have e : some x5 = _ := (hold 5 (fun j hj => by clear hold; revert hj j; decide)).trans g5
      injection e with e
      subst e
      clear hold hs0 hd0 g1 g2 g4 g5
      rcases (show i = 0 ∨ i = 1 ∨ i = 2 ∨ i = 3 ∨ i = 4 ∨ i = 5 ∨ i = 6 by omega) with rfl | rfl | rfl | rfl | rfl | rfl | rfl
      all_goals simp at ho2
      all_goals subst ho2
      all_goals simp [Region.binds, LeftB] at hdeps
      · go_wp2_with fail
        exact ⟨gr_refl _ _, rfl⟩
      · subst hdeps
        obtain ⟨c0, c1, c2, c3, c4, c5, c6, c7, c8, c9, c10, c11, c12, c13, c14, c15, c16, c17, c18, c19, c20, c21, c22⟩ := cells (K.grown hgW (by simp))
        clear c0 c1 c2 c3 c4 c5 c6 c7 c8 c9 c10 c11 c12 c16 c17 c18 c19 c20 c21 c22
        go_wp2_with fail
        exact ⟨gr_refl _ _, rfl⟩
      · go_wp2_with (refine ld_row rfl _ rfl zo ⟨b, x.he, x.ri, x.sp, x.bk, x.li, x.ly, x.wa, x.ar, x.sq, x.lo⟩ q rfl (K52.grown hgW (by simp)) ?_)
        exact ⟨gr_refl _ _, rfl⟩
      · first | subst hdeps | (obtain ⟨rfl, _⟩ := hdeps)
        go_wp2_with fail
        refine (cR _ (O.arg.kept hgW)).mono ?_
        rintro e wx ⟨a, cap, rfl, r, oa, _⟩
        go_wp2_with fail
        exact ⟨a, cap, rfl, oa.ints⟩
      · go_wp2_with fail
        exact ⟨gr_refl _ _, rfl⟩
      · first | (obtain ⟨rfl, ⟨a, ⟨cap, rfl⟩, ia⟩, rfl⟩ := hdeps) | (obtain ⟨rfl, ⟨a, ⟨cap, rfl⟩, ia⟩, rfl, _⟩ := hdeps)
        go_wp2_with fail
        refine (cM _ a cap ia).mono ?_
        rintro e wx ⟨rfl, r⟩
        go_wp2_with fail
        exact rfl
      · go_wp2_with fail
        exact ⟨gr_refl _ _, rfl⟩
    · intro o W hgW hsz2 hdf hold hnew
      obtain ⟨⟨tl⟩, df⟩ := o
      have ed : df = [] := hdf.trans hd0
      subst ed
      have hlen : tl.length = 31 := hsz2.trans hs0
      clear hsz2 hdf
      refine litE31 tl hlen ?_
      clear hlen
      intro x0 x1 x2 x3 x4 x5 x6 x7 x8 x9 x10 x11 x12 x13 x14 x15 x16 x17 x18 x19 x20 x21 x22 x23 x24 x25 x26 x27 x28 x29 x30 et
      subst et
      have e : some x1 = _ := (hold 1 (fun j hj => by clear hold; revert hj j; decide)).trans g1
      injection e with e
      subst e
      have e : some x2 = _ := (hold 2 (fun j hj => by clear hold; revert hj j; decide)).trans g2
      injection e with e
      subst e
      have e : some x4 = _ := (hold 4 (fun j hj => by clear hold; revert hj j; decide)).trans g4
      injection e with e
      subst e
      have e : some x5 = _ := (hold 5 (fun j hj => by clear hold; revert hj j; decide)).trans g5
      injection e with e
      subst e
      obtain ⟨v, e, rfl⟩ := hnew 5 (by omega)
      have e : some x18 = _ := e
      injection e with e
      subst e
      obtain ⟨v, e, rfl⟩ := hnew 6 (by omega)
      have e : some x19 = _ := e
      injection e with e
      subst e
      clear hnew hold hs0 hd0 g1 g2 g4 g5
      simp only [List.drop_succ_cons, List.drop_zero]
      replace G := gr_trans G hgW
      replace K := K.grown hgW (by simp)
      replace R := R.grown hgW (by simp)
      replace K52 := K52.grown hgW (by simp)
      replace O := O.kept hgW
      clear hgW cR cM
      generalize bo.mvH x.he x.ri x.sp (realTo x.bk b.ou 6) g = H1 at *
      generalize bo.mvR x.he x.ri x.sp (realTo x.bk b.ou 6) g = R1 at *
      generalize bo.mvS x.sp (realTo x.bk b.ou 6) = S1 at *
      go_upto_region 4 with (refine st_body rfl _ _ rfl rfl zo H1 R1 S1 ⟨b, x.he, x.ri, x.sp, x.bk, x.li, x.ly, x.wa, x.ar, x.sq, x.lo⟩ q rfl rfl K52 ?_; intro v3 c3 K53)
      replace G := gr_past G c3 (by omega)
      replace K := K.grown c3 (by simp; omega)
      replace R := R.grown c3 (by simp; omega)
      replace O := O.low c3 (by omega)
      clear c3 K52
      have k21 : v3.cell? ⟨w.heap.size, 21, none⟩ = some (.int .i64 x.sq) := K.cell 21
      have k22 : v3.cell? ⟨w.heap.size, 22, none⟩ = some (.int .i64 x.lo) := K.cell 22
      have m21 : v3.cell? ⟨zo, 21, none⟩ = some (.int .i64 x.sq) := K53.cell 21
      have f21 := K53.frozen 21
      have hsq := HO.out.sq
      have hlo := HO.out.lo
      go_upto_region 5 with fail
      clear k21 k22 m21 f21
      replace O := O.low (gr_set (gr_refl v3 (some zo)) 21 (.int .i64 ((x.sq + 1) % 100))) (by omega)
      replace G := gr_new G (show w.heap.size ≤ zo by omega) 21 (.int .i64 ((x.sq + 1) % 100))
      replace K := K.set_other (show w.heap.size ≠ zo by omega) 21 (.int .i64 ((x.sq + 1) % 100))
      replace R := R.set_other (show w.heap.size + 1 ≠ zo by omega) 21 (.int .i64 ((x.sq + 1) % 100))
      replace K53 := put21 K53 (.int .i64 ((x.sq + 1) % 100))
      generalize v3.setCell ⟨zo, 21, none⟩ (.int .i64 ((x.sq + 1) % 100)) = v4 at *
      have k22 : v4.cell? ⟨w.heap.size, 22, none⟩ = some (.int .i64 x.lo) := K.cell 22
      have m22 : v4.cell? ⟨zo, 22, none⟩ = some (.int .i64 x.lo) := K53.cell 22
      have f22 := K53.frozen 22
      go_wp2_with fail
      refine (fix.specMax 0 (x.lo - 1) _).mono ?_
      rintro e v5 ⟨rfl, rfl⟩
      go_upto_region 6 with fail
      clear k22 m22 f22
      replace O := O.low (gr_set (gr_refl v4 (some zo)) 22 (.int .i64 (max 0 (x.lo - 1)))) (by omega)
      replace G := gr_new G (show w.heap.size ≤ zo by omega) 22 (.int .i64 (max 0 (x.lo - 1)))
      replace R := R.set_other (show w.heap.size + 1 ≠ zo by omega) 22 (.int .i64 (max 0 (x.lo - 1)))
      have K6 : Has (v4.setCell ⟨zo, 22, none⟩ (.int .i64 (max 0 (x.lo - 1)))) zo 92 (cs23 ⟨b, H1, R1, S1, x.bk, x.li, x.ly, x.wa, x.ar, (x.sq + 1) % 100, max 0 (x.lo - 1)⟩ q) := put22 K53 (.int .i64 (max 0 (x.lo - 1)))
      clear K53 K
      generalize v4.setCell ⟨zo, 22, none⟩ (.int .i64 (max 0 (x.lo - 1))) = v6 at *
      go_wp2_with (first | (refine ld_row rfl _ rfl zo ⟨b, H1, R1, S1, x.bk, x.li, x.ly, x.wa, x.ar, (x.sq + 1) % 100, max 0 (x.lo - 1)⟩ q rfl K6 ?_) | (refine st_row rfl _ _ rfl rfl (w.heap.size + 1) ⟨b, H1, R1, S1, x.bk, x.li, x.ly, x.wa, x.ar, (x.sq + 1) % 100, max 0 (x.lo - 1)⟩ q z23 rfl rfl R rfl ?_; intro v7 c7 R7))
      replace O := O.low c7 (by omega)
      replace G := gr_past G c7 (show w.heap.size ≤ w.heap.size + 1 by omega)
      obtain ⟨bH, bR, bS⟩ := bo.ok_iff.1 bM
      have hq1 : 0 ≤ (x.sq + 1) % 100 ∧ (x.sq + 1) % 100 ≤ 99 := by omega
      have hq2 : 0 ≤ max 0 (x.lo - 1) ∧ max 0 (x.lo - 1) ≤ 100 := by omega
      refine bodyPost_ret (v := wv ⟨b, H1, R1, S1, x.bk, x.li, x.ly, x.wa, x.ar, (x.sq + 1) % 100, max 0 (x.lo - 1)⟩ q) ?_ rfl ⟨⟨b, H1, R1, S1, x.bk, x.li, x.ly, x.wa, x.ar, (x.sq + 1) % 100, max 0 (x.lo - 1)⟩, q, rfl, G, O.below (by omega), ⟨ok, bH, bR, bS, HO.out.bk, HO.out.li, HO.out.ly, HO.out.wa, hq1, hq2⟩⟩
      exact rs_row rfl _ _ (w.heap.size + 1) ⟨b, H1, R1, S1, x.bk, x.li, x.ly, x.wa, x.ar, (x.sq + 1) % 100, max 0 (x.lo - 1)⟩ q rfl R7
end Go.Proofs.YtdikhdfpcipdbaaGreatDoor.wd
