/- The model's tick at a right brain: a right one comes back. Chapter 18 of the model: a turn of a right world. Chapter 18 of the model: Turned, TurnedMany of a right world. Chapter 19 of the model: what happens to a right world. -/
import Derived.Test.YtdikhdfpcipdbaaGreatDoorG36
import Derived.Test.YtdikhdfpcipdbaaGreatDoorG24
import Derived.Test.YtdikhdfpcipdbaaGreatDoorG32
import Derived.Test.YtdikhdfpcipdbaaGreatDoorG41
import Derived.Test.YtdikhdfpcipdbaaGreatDoorG37
import Derived.Test.YtdikhdfpcipdbaaGreatDoorG25
import Derived.Test.YtdikhdfpcipdbaaGreatDoorG13
import Derived.Test.YtdikhdfpcipdbaaGreatDoorG42
/- The model's tick at a right brain: a right one comes back. -/
namespace Go.Proofs.YtdikhdfpcipdbaaGreatDoor.br
open Go.ChangeShapes Go.WideShapes Go.ChangeAt Go.RowKit
open Go.Proofs.YtdikhdfpcipdbaaGreatDoor.nums Go.Proofs.YtdikhdfpcipdbaaGreatDoor.mem
open Go.Proofs.YtdikhdfpcipdbaaGreatDoor.tab (Ret)
open Go.Proofs.YtdikhdfpcipdbaaGreatDoor.fan (F okF zF fN fO fT)
open Go.Proofs.YtdikhdfpcipdbaaGreatDoor.gt (G)
open Go.Proofs.YtdikhdfpcipdbaaGreatDoor.md (Fx cs8 fac factsOk)
open Go.Proofs.YtdikhdfpcipdbaaGreatDoor.il (nth Ints)
open Go.Proofs.YtdikhdfpcipdbaaGreatDoor.se (cons_of)
open Go.Proofs.YtdikhdfpcipdbaaGreatDoor.qt (region_below_tail rg_ret rg_same gr_rg)
set_option linter.unusedVariables false

/-- An act that is told by some of its slots. -/
theorem abs3 {P : Program} {c : Code} {Q : Exit → Act → World → Prop} {a : Act} {w : World} {n : Nat} (i j k : Nat) {x y z : Value}
    (h : ∀ a0 : Act, a0.tmps.size = n → a0.defers = [] → a0.tmps[i]? = some x → a0.tmps[j]? = some y → a0.tmps[k]? = some z → c.wp P Q a0 w)
    (h1 : a.tmps.size = n) (h2 : a.defers = []) (h3 : a.tmps[i]? = some x) (h4 : a.tmps[j]? = some y) (h5 : a.tmps[k]? = some z) : c.wp P Q a w := h a h1 h2 h3 h4 h5
theorem abs4 {P : Program} {c : Code} {Q : Exit → Act → World → Prop} {a : Act} {w : World} {n : Nat} (i j k l : Nat) {x y z u : Value}
    (h : ∀ a0 : Act, a0.tmps.size = n → a0.defers = [] → a0.tmps[i]? = some x → a0.tmps[j]? = some y → a0.tmps[k]? = some z → a0.tmps[l]? = some u → c.wp P Q a0 w)
    (h1 : a.tmps.size = n) (h2 : a.defers = []) (h3 : a.tmps[i]? = some x) (h4 : a.tmps[j]? = some y) (h5 : a.tmps[k]? = some z) (h6 : a.tmps[l]? = some u) : c.wp P Q a w := h a h1 h2 h3 h4 h5 h6
/-- What each operation ahead of the facts leaves. -/
def LeftF (zo z : Nat) (S : se.S) (pS : se.P) (pfa : Option Addr) (n pfc : Nat) (L : List F) (tm : Int) : Nat → Value → World → Prop
  | 0, v, _ => v = .pointer (some ⟨zo, 5, none⟩)
  | 1, v, _ => v = se.sv S pS
  | 2, v, _ => v = .pointer (some ⟨zo, 2, none⟩)
  | 3, v, _ => v = .slice pfa n pfc
  | 4, v, w => ∃ a c, v = .slice a (fan.outIn L).length c ∧ Ints w a (fan.outIn L)
  | 5, v, _ => v = .int .i64 (cas.caseOf (fan.outIn L))
  | 6, v, _ => v = .pointer (some ⟨z, 1, none⟩)
  | 7, v, _ => v = .int .i64 tm
  | 8, v, _ => v = fac (se.factsOf S (cas.caseOf (fan.outIn L)) tm)
  | 9, v, w => ∃ q, v = .pointer (some ⟨q, 0, none⟩) ∧ zo < q ∧ Has w q 35 (cs8 se.zF)
  | _, _, _ => False
theorem LeftF.stab (zo z : Nat) (S : se.S) (pS : se.P) (pfa : Option Addr) (n pfc : Nat) (L : List F) (tm : Int) (j : Nat) (v : Value) (w w' : World) (h : LeftF zo z S pS pfa n pfc L tm j v w) (hg : w.grownBy w' none) : LeftF zo z S pS pfa n pfc L tm j v w' := by
  match j, h with
  | 0, h => exact h
  | 1, h => exact h
  | 2, h => exact h
  | 3, h => exact h
  | 4, ⟨a, c, h1, h2⟩ => exact ⟨a, c, h1, h2.kept hg⟩
  | 5, h => exact h
  | 6, h => exact h
  | 7, h => exact h
  | 8, h => exact h
  | 9, ⟨q, h1, h2, h3⟩ => exact ⟨q, h1, h2, h3.grown hg (by simp)⟩
/-- What each operation ahead of the outs leaves. -/
def LeftU (zo z : Nat) (pou : Option Addr) (ou : List Int) (poc : Nat) (md : Int) (f : Fx) : Nat → Value → World → Prop
  | 0, v, _ => v = .pointer (some ⟨z, 11, none⟩)
  | 1, v, _ => v = .slice pou ou.length poc
  | 2, v, _ => v = .pointer (some ⟨zo, 0, none⟩)
  | 3, v, _ => v = .int .i64 md
  | 4, v, _ => v = fac f
  | 5, v, w => ∃ a c, v = .slice a (outsOf md f).length c ∧ Ints w a (outsOf md f)
  | 6, v, w => ∃ a c, v = .slice a (bl.slew ou (outsOf md f) 100).length c ∧ il.Own w a (bl.slew ou (outsOf md f) 100) ∧ ∀ x, il.blk a (bl.slew ou (outsOf md f) 100) = some x → zo ≤ x
  | 7, v, _ => v = .pointer (some ⟨zo, 11, none⟩)
  | _, _, _ => False
theorem LeftU.stab (zo z : Nat) (pou : Option Addr) (ou : List Int) (poc : Nat) (md : Int) (f : Fx) (j : Nat) (v : Value) (w w' : World) (h : LeftU zo z pou ou poc md f j v w) (hg : w.grownBy w' none) : LeftU zo z pou ou poc md f j v w' := by
  match j, h with
  | 0, h => exact h
  | 1, h => exact h
  | 2, h => exact h
  | 3, h => exact h
  | 4, h => exact h
  | 5, ⟨a, c, h1, h2⟩ => exact ⟨a, c, h1, h2.kept hg⟩
  | 6, ⟨a, c, h1, h2, h3⟩ => exact ⟨a, c, h1, h2.kept hg, h3⟩
  | 7, h => exact h
/-- Six right fans. -/
def Six (L : List F) : Prop := L.length = 6 ∧ L.all okF = true
/-- A right brain comes back that owns its memory. -/
def RetT (w : World) (e : Ending) (w' : World) : Prop := ∃ b p, e = .returned (bv b p) ∧ w.grownBy w' none ∧ OwnB w.heap.size w' b p ∧ OkB b

set_option maxRecDepth 100000 in
set_option maxHeartbeats 4000000 in
theorem specTicked (b : B) (p : P) (s : List UInt8) (w : World) (h : Arg w b p) (ho : OkB b) (hs : s.length ≤ 2000) : Calls Tryz.prog 146 #[bv b p, str s] w (RetT w) := by
  obtain ⟨rdx, hrd⟩ := stm.rd_ex
  have K : Has ((w.alloc (Obj.cells (cs13 b p) 88)).alloc (Obj.cells z13 88)) w.heap.size 88 (cs13 b p) := (Has.fresh w _ _).alloc _
  have R := Has.fresh (w.alloc (Obj.cells (cs13 b p) 88)) 88 z13
  have G := gr_alloc (World.grownBy_alloc w (Obj.cells (cs13 b p) 88) none) (Obj.cells z13 88)
  simp only [World.size_alloc] at R
  have cB := fun W k => specBrainOk b p W k ho
  have cC := fun W k => specCopyB b p W k ho
  have cI := fun W => stm.specIn_ rdx hrd (b.ta ++ s) W (by have := ho.ta; simp; omega)
  have hfr := Lib.hid (frs_short hrd (b.ta ++ s))
  have hrs := Lib.hid (rst_len rdx (b.ta ++ s))
  generalize stm.frsOf rdx (b.ta ++ s) = fs at *
  generalize stm.rstOf rdx (b.ta ++ s) = rs at *
  have cF := fun W a c ps k k2 => se.specFed b.se p.se a c fs ps W k (bd_ok ho.se) k2 (by have := hfr.out.1; omega) (fun k hk => by have := hfr.out.2 k hk; omega)
  have hse := Lib.hid (se.ok_iff.1 (se.ok_fed (fs := fs) (se.ok_iff.2 ho.se)))
  generalize se.fed b.se fs = S at *
  have happ := frm.str_app b.ta s
  have d2000 : decide ((s.length : Int) ≤ 2000) = true := by simp; omega
  have HO := Lib.hid ho
  have hta := ho.ta
  clear ho
  have hsW : w.heap.size + 1 < ((w.alloc (Obj.cells (cs13 b p) 88)).alloc (Obj.cells z13 88)).heap.size := by simp
  obtain ⟨⟨⟨x0, x1, x2⟩, x3, x4⟩, ⟨⟨x5, x6, x7⟩, x8, x9, x10⟩, x11, x12⟩ := thirteen K
  go_enter Tryz.func146, Tryz.ntmps146
  go_upto_region 1 with fail
  generalize (w.alloc (Obj.cells (cs13 b p) 88)).alloc (Obj.cells z13 88) = v0 at *
  go_wp2_with fail
  refine (cB _ (h.kept G)).mono ?_
  rintro e w1 ⟨rfl, r⟩
  replace G := gr_trans G r
  replace K := K.grown r (by simp)
  replace R := R.grown r (by simp)
  replace hsW := Nat.lt_of_lt_of_le hsW r.size
  clear x0 x1 x2 x3 x4 x5 x6 x7 x8 x9 x10 x11 x12 r cB
  obtain ⟨⟨⟨x0, x1, x2⟩, x3, x4⟩, ⟨⟨x5, x6, x7⟩, x8, x9, x10⟩, x11, x12⟩ := thirteen K
  go_upto_region 3 with fail
  go_wp2_with fail
  refine (cC _ (h.kept G)).mono ?_
  rintro e w2 ⟨pc, rfl, r, O⟩
  replace G := gr_trans G r
  replace K := K.grown r (by simp)
  replace R := R.grown r (by simp)
  have hs2 := Nat.lt_of_lt_of_le hsW r.size
  clear x0 x1 x2 x3 x4 x5 x6 x7 x8 x9 x10 x11 x12 cC
  obtain ⟨⟨⟨x0, x1, x2⟩, x3, x4⟩, ⟨⟨x5, x6, x7⟩, x8, x9, x10⟩, x11, x12⟩ := thirteen (K.alloc (Obj.cells z13 88))
  go_upto_region 4 with fail
  have K5 := Has.fresh w2 88 (cs13 b pc)
  replace G := gr_alloc G (Obj.cells (cs13 b pc) 88)
  replace K := K.alloc (Obj.cells (cs13 b pc) 88)
  replace R := R.alloc (Obj.cells (cs13 b pc) 88)
  replace O : OwnB w1.heap.size (w2.alloc (Obj.cells (cs13 b pc) 88)) ⟨0, 0, b.fa, (0, false), b.se, b.ou, []⟩ pc := by
    have O' := O.kept (World.grownBy_alloc w2 (Obj.cells (cs13 b pc) 88) none)
    exact ⟨O'.fa, O'.se, O'.ou, O'.zf, O'.zo⟩
  have hs3 : w2.heap.size < (w2.alloc (Obj.cells (cs13 b pc) 88)).heap.size := by simp
  have hz1 : w1.heap.size ≤ w2.heap.size := r.size
  obtain ⟨pfa, pfc, pse, pou, poc⟩ := pc
  simp only at *
  clear r
  clear x0 x1 x2 x3 x4 x5 x6 x7 x8 x9 x10 x11 x12
  generalize hzo : w2.heap.size = zo at *
  generalize w2.alloc (Obj.cells (cs13 b ⟨pfa, pfc, pse, pou, poc⟩) 88) = w3 at *
  go_upto_region 5 with fail
  have hs4 : zo < (w3.alloc (Obj.cells #[] 50)).heap.size := by simp; omega
  have r := World.grownBy_alloc w3 (Obj.cells #[] 50) none
  replace G := gr_trans G r
  replace K := K.grown r (by simp)
  replace R := R.grown r (by simp)
  replace K5 := K5.grown r (by simp)
  replace O := O.kept r
  clear r
  generalize w3.alloc (Obj.cells #[] 50) = w4 at *
  obtain ⟨⟨⟨x0, x1, x2⟩, x3, x4⟩, ⟨⟨x5, x6, x7⟩, x8, x9, x10⟩, x11, x12⟩ := thirteen K5
  obtain ⟨⟨⟨f0, f1, f2⟩, f3, f4⟩, ⟨⟨f5, f6, f7⟩, f8, f9, f10⟩, f11, f12⟩ := free13 K5
  go_upto_region 6 with fail
  have nz : w.heap.size ≠ zo := by omega
  have nr : w.heap.size + 1 ≠ zo := by omega
  have lz : w.heap.size ≤ zo := by omega
  replace G := gr_new G lz 12 (.string ⟨#[]⟩)
  replace K := K.set_other nz 12 (.string ⟨#[]⟩)
  replace R := R.set_other nr 12 (.string ⟨#[]⟩)
  replace O := O.far K5 (by decide) (by decide) (by decide) (gr_set (gr_refl w4 (some zo)) 12 (.string ⟨#[]⟩))
  replace K5 := put12 K5 (.string ⟨#[]⟩)
  replace hs4 : zo < (w4.setCell ⟨zo, 12, none⟩ (.string ⟨#[]⟩)).heap.size := by simpa using hs4
  clear x0 x1 x2 x3 x4 x5 x6 x7 x8 x9 x10 x11 x12
  clear f0 f1 f2 f3 f4 f5 f6 f7 f8 f9 f10 f11 f12
  generalize w4.setCell ⟨zo, 12, none⟩ (.string ⟨#[]⟩) = w5 at *
  obtain ⟨⟨⟨x0, x1, x2⟩, x3, x4⟩, ⟨⟨x5, x6, x7⟩, x8, x9, x10⟩, x11, x12⟩ := thirteen K
  go_wp2_with fail
  refine (cI _).mono ?_
  rintro e w6 ⟨af, kf, ps, rfl, r, HF, bF, _, _⟩
  clear x0 x1 x2 x3 x4 x5 x6 x7 x8 x9 x10 x11 x12
  have hs6 := r.size
  replace G := gr_trans G r
  replace K := K.grown r (by simp)
  replace R := R.grown r (by simp)
  replace K5 := K5.grown r (by simp)
  replace O := O.kept r
  clear r
  obtain ⟨⟨⟨x0, x1, x2⟩, x3, x4⟩, ⟨⟨x5, x6, x7⟩, x8, x9, x10⟩, x11, x12⟩ := thirteen K5
  obtain ⟨⟨⟨f0, f1, f2⟩, f3, f4⟩, ⟨⟨f5, f6, f7⟩, f8, f9, f10⟩, f11, f12⟩ := free13 K5
  go_upto_region 8 with fail
  have HF2 : stm.OwnFs (w6.setCell ⟨zo, 12, none⟩ (str rs)) af fs ps := (stm.chg_of_gr (S := fun c => c = zo) (gr_set (gr_refl w6 (some zo)) 12 (str rs)) (fun b e => by injection e)).ownFs HF (fun b hb e => by have := bF b hb; omega)
  replace G := gr_new G lz 12 (str rs)
  replace K := K.set_other nz 12 (str rs)
  replace R := R.set_other nr 12 (str rs)
  replace O := O.far K5 (by decide) (by decide) (by decide) (gr_set (gr_refl w6 (some zo)) 12 (str rs))
  replace K5 := put12 K5 (str rs)
  have hs7 : zo < (w6.setCell ⟨zo, 12, none⟩ (str rs)).heap.size := by simp; omega
  have hz7 : w1.heap.size ≤ (w6.setCell ⟨zo, 12, none⟩ (str rs)).heap.size := by simp; omega
  clear x0 x1 x2 x3 x4 x5 x6 x7 x8 x9 x10 x11 x12
  clear f0 f1 f2 f3 f4 f5 f6 f7 f8 f9 f10 f11 f12
  clear HF bF hs6 hs4
  generalize w6.setCell ⟨zo, 12, none⟩ (str rs) = w7 at *
  obtain ⟨⟨⟨x0, x1, x2⟩, x3, x4⟩, ⟨⟨x5, x6, x7⟩, x8, x9, x10⟩, x11, x12⟩ := thirteen K
  go_wp2_with fail
  refine (cF _ af kf ps (h.se.kept G) HF2.frs).mono ?_
  rintro e w8 ⟨pS, rfl, r, OS⟩
  clear x0 x1 x2 x3 x4 x5 x6 x7 x8 x9 x10 x11 x12
  have hs8 : zo < w8.heap.size := Nat.lt_of_lt_of_le hs7 r.size
  replace G := gr_trans G r
  replace K := K.grown r (by simp)
  replace R := R.grown r (by simp)
  replace K5 := K5.grown r (by simp)
  replace O := O.kept r
  replace O : OwnB w1.heap.size w8 ⟨0, 0, b.fa, (0, false), S, b.ou, []⟩ ⟨pfa, pfc, pS, pou, poc⟩ := ⟨O.fa, OS.below hz7, O.ou, O.zf, O.zo⟩
  clear r OS HF2 cF hs7 hz7
  obtain ⟨⟨⟨x0, x1, x2⟩, x3, x4⟩, ⟨⟨x5, x6, x7⟩, x8, x9, x10⟩, x11, x12⟩ := thirteen K5
  obtain ⟨⟨⟨f0, f1, f2⟩, f3, f4⟩, ⟨⟨f5, f6, f7⟩, f8, f9, f10⟩, f11, f12⟩ := free13 K5
  go_upto_region 9 with fail
  replace G := gr_new G lz 5 (.slice pS.a1 S.sp.length pS.c1)
  replace K := K.set_other nz 5 (.slice pS.a1 S.sp.length pS.c1)
  replace R := R.set_other nr 5 (.slice pS.a1 S.sp.length pS.c1)
  replace O := O.far K5 (by decide) (by decide) (by decide) (gr_set (gr_refl _ (some zo)) 5 (.slice pS.a1 S.sp.length pS.c1))
  replace K5 := put5 K5 (.slice pS.a1 S.sp.length pS.c1)
  replace G := gr_new G lz 6 (.slice pS.a2 S.he.length pS.c2)
  replace K := K.set_other nz 6 (.slice pS.a2 S.he.length pS.c2)
  replace R := R.set_other nr 6 (.slice pS.a2 S.he.length pS.c2)
  replace O := O.far K5 (by decide) (by decide) (by decide) (gr_set (gr_refl _ (some zo)) 6 (.slice pS.a2 S.he.length pS.c2))
  replace K5 := put6 K5 (.slice pS.a2 S.he.length pS.c2)
  replace G := gr_new G lz 7 (.slice pS.a3 S.fa.length pS.c3)
  replace K := K.set_other nz 7 (.slice pS.a3 S.fa.length pS.c3)
  replace R := R.set_other nr 7 (.slice pS.a3 S.fa.length pS.c3)
  replace O := O.far K5 (by decide) (by decide) (by decide) (gr_set (gr_refl _ (some zo)) 7 (.slice pS.a3 S.fa.length pS.c3))
  replace K5 := put7 K5 (.slice pS.a3 S.fa.length pS.c3)
  replace G := gr_new G lz 8 (.int .i64 S.wn)
  replace K := K.set_other nz 8 (.int .i64 S.wn)
  replace R := R.set_other nr 8 (.int .i64 S.wn)
  replace O := O.far K5 (by decide) (by decide) (by decide) (gr_set (gr_refl _ (some zo)) 8 (.int .i64 S.wn))
  replace K5 := put8 K5 (.int .i64 S.wn)
  replace G := gr_new G lz 9 (.bool S.ar)
  replace K := K.set_other nz 9 (.bool S.ar)
  replace R := R.set_other nr 9 (.bool S.ar)
  replace O := O.far K5 (by decide) (by decide) (by decide) (gr_set (gr_refl _ (some zo)) 9 (.bool S.ar))
  replace K5 := put9 K5 (.bool S.ar)
  replace G := gr_new G lz 10 (.slice pS.a4 S.sq.length pS.c4)
  replace K := K.set_other nz 10 (.slice pS.a4 S.sq.length pS.c4)
  replace R := R.set_other nr 10 (.slice pS.a4 S.sq.length pS.c4)
  replace O := O.far K5 (by decide) (by decide) (by decide) (gr_set (gr_refl _ (some zo)) 10 (.slice pS.a4 S.sq.length pS.c4))
  replace K5 := put10 K5 (.slice pS.a4 S.sq.length pS.c4)
  clear x0 x1 x2 x3 x4 x5 x6 x7 x8 x9 x10 x11 x12
  clear f0 f1 f2 f3 f4 f5 f6 f7 f8 f9 f10 f11 f12
  replace hs8 : zo < ((((((w8.setCell ⟨zo, 5, none⟩ (.slice pS.a1 S.sp.length pS.c1)).setCell ⟨zo, 6, none⟩ (.slice pS.a2 S.he.length pS.c2)).setCell ⟨zo, 7, none⟩ (.slice pS.a3 S.fa.length pS.c3)).setCell ⟨zo, 8, none⟩ (.int .i64 S.wn)).setCell ⟨zo, 9, none⟩ (.bool S.ar)).setCell ⟨zo, 10, none⟩ (.slice pS.a4 S.sq.length pS.c4)).heap.size := by simpa using hs8
  generalize (((((w8.setCell ⟨zo, 5, none⟩ (.slice pS.a1 S.sp.length pS.c1)).setCell ⟨zo, 6, none⟩ (.slice pS.a2 S.he.length pS.c2)).setCell ⟨zo, 7, none⟩ (.slice pS.a3 S.fa.length pS.c3)).setCell ⟨zo, 8, none⟩ (.int .i64 S.wn)).setCell ⟨zo, 9, none⟩ (.bool S.ar)).setCell ⟨zo, 10, none⟩ (.slice pS.a4 S.sq.length pS.c4) = w9 at *
  clear nr
  have l1z : w.heap.size + 1 < w1.heap.size := hsW
  go_wp2_with fail
  go_loopw [7] (fun i wr => ∃ (k : Nat), k ≤ 6 ∧ i = .int .i64 k ∧ Has wr w.heap.size 88 (cs13 b p) ∧ Has wr (w.heap.size + 1) 88 z13 ∧ Has wr zo 88 #[.int .i64 b.md, .int .i64 b.tm, .slice pfa b.fa.length pfc, .int .i64 b.ga.1, .bool b.ga.2, .slice pS.a1 S.sp.length pS.c1, .slice pS.a2 S.he.length pS.c2, .slice pS.a3 S.fa.length pS.c3, .int .i64 S.wn, .bool S.ar, .slice pS.a4 S.sq.length pS.c4, .slice pou b.ou.length poc, str rs] ∧ zo < wr.heap.size ∧ w.grownBy wr none ∧ ∃ L : List F, Six L ∧ OwnB w1.heap.size wr ⟨0, 0, L, (0, false), S, b.ou, []⟩ ⟨pfa, pfc, pS, pou, poc⟩) (fun i _ => 6 - (intOf i).toNat)
  case atStart => exact ⟨0, by omega, rfl, K, R, K5, hs8, G, b.fa, ⟨HO.out.fa6, HO.out.fa⟩, O⟩
  case round =>
    clear K R K5 O hs8 G
    obtain ⟨k, hk, rfl, K, R, K5, hs8, G, L, hL, O⟩ := hrel
    by_cases hlt : k < 6
    · have hkb : k < b.fa.length := by have := HO.out.fa6; omega
      have hkf : k < S.fa.length := by have := hse.out.fa6; omega
      have hko : k < b.ou.length := by have := HO.out.ou7; omega
      have hkL : k < L.length := by have := hL.1; omega
      obtain ⟨xf, exf, _, cx, cy, cz⟩ := (h.fa.kept G) k hkb
      obtain ⟨xo, exo, _, co⟩ := (h.ou.kept G) k hko
      obtain ⟨xr, exr, _, qx, qy, qz⟩ := O.se.fa.arg k hkf
      simp only at exr
      have hT := watched_ok (fN b.fa k, fO b.fa k, fT b.fa k) (nth b.ou k) (rd.rx S.fa k, rd.ra S.fa k, rd.ro S.fa k)
      have cW : ∀ d os, Calls Tryz.prog 160 #[.agg #[.int .i64 (fN b.fa k), .bool (fO b.fa k), .bool (fT b.fa k)], .int .i64 (nth b.ou k), .agg #[.int .i64 (rd.rx S.fa k), .int .i64 (rd.ra S.fa k), .bool (rd.ro S.fa k)]] (Go.Sort.grow (redrawn wr d) os) (Ret (.agg #[.int .i64 (fan.watched (fN b.fa k, fO b.fa k, fT b.fa k) (nth b.ou k) (rd.rx S.fa k, rd.ra S.fa k, rd.ro S.fa k)).1, .bool (fan.watched (fN b.fa k, fO b.fa k, fT b.fa k) (nth b.ou k) (rd.rx S.fa k, rd.ra S.fa k, rd.ro S.fa k)).2.1, .bool (fan.watched (fN b.fa k, fO b.fa k, fT b.fa k) (nth b.ou k) (rd.rx S.fa k, rd.ra S.fa k, rd.ro S.fa k)).2.2]) (Go.Sort.grow (redrawn wr d) os)) := fun d os => fan.specWatched (fN b.fa k) (nth b.ou k) (rd.rx S.fa k) (rd.ra S.fa k) (fO b.fa k) (fT b.fa k) (rd.ro S.fa k) _
      generalize fan.watched (fN b.fa k, fO b.fa k, fT b.fa k) (nth b.ou k) (rd.rx S.fa k, rd.ra S.fa k, rd.ro S.fa k) = T at *
      obtain ⟨t1, t2, t3⟩ := T
      obtain ⟨gf, v0, v1, v2, ef, lf, zf, _, _, _, _, _, _, ⟨csf, Hf⟩, _⟩ := O.fan (k := k) hkL (t1, t2, t3)
      simp only at ef cW
      obtain ⟨⟨⟨x0, x1, x2⟩, x3, x4⟩, ⟨⟨x5, x6, x7⟩, x8, x9, x10⟩, x11, x12⟩ := thirteen K
      obtain ⟨⟨⟨y0, y1, y2⟩, y3, y4⟩, ⟨⟨y5, y6, y7⟩, y8, y9, y10⟩, y11, y12⟩ := thirteen K5
      rw [exf] at x2
      rw [exo] at x11
      rw [ef] at y2
      rw [exr] at y7
      clear exf exo exr
      go_wp2_with fail
      have e0 : ∀ d os, (Go.Sort.grow (redrawn wr d) os).cell? ⟨zo, 2, none⟩ = some (.slice (some ⟨gf, 0, none⟩) b.fa.length pfc) := cell_regrown y2
      have e1 : ∀ d os, (Go.Sort.grow (redrawn wr d) os).cell? ⟨w.heap.size, 2, none⟩ = some (.slice (some xf) b.fa.length p.fc) := cell_regrown x2
      have e2 : ∀ d os, (Go.Sort.grow (redrawn wr d) os).cell? ⟨w.heap.size, 11, none⟩ = some (.slice (some xo) b.ou.length p.oc) := cell_regrown x11
      have e3 : ∀ d os, (Go.Sort.grow (redrawn wr d) os).cell? ⟨zo, 7, none⟩ = some (.slice (some xr) S.fa.length pS.c3) := cell_regrown y7
      have e4 : ∀ d os, (Go.Sort.grow (redrawn wr d) os).cell? (xf.add (k * 3)) = some (.int .i64 (fN b.fa k)) := cell_regrown cx
      have e5 : ∀ d os, (Go.Sort.grow (redrawn wr d) os).cell? ⟨(xf.add (k * 3)).block, (xf.add (k * 3)).off + 1, none⟩ = some (.bool (fO b.fa k)) := cell_regrown cy
      have e6 : ∀ d os, (Go.Sort.grow (redrawn wr d) os).cell? ⟨(xf.add (k * 3)).block, (xf.add (k * 3)).off + 2, none⟩ = some (.bool (fT b.fa k)) := cell_regrown cz
      have e7 : ∀ d os, (Go.Sort.grow (redrawn wr d) os).cell? (xo.add k) = some (.int .i64 (nth b.ou k)) := cell_regrown co
      have e8 : ∀ d os, (Go.Sort.grow (redrawn wr d) os).cell? (xr.add (k * 3)) = some (.int .i64 (rd.rx S.fa k)) := cell_regrown qx
      have e9 : ∀ d os, (Go.Sort.grow (redrawn wr d) os).cell? ⟨(xr.add (k * 3)).block, (xr.add (k * 3)).off + 1, none⟩ = some (.int .i64 (rd.ra S.fa k)) := cell_regrown qy
      have e10 : ∀ d os, (Go.Sort.grow (redrawn wr d) os).cell? ⟨(xr.add (k * 3)).block, (xr.add (k * 3)).off + 2, none⟩ = some (.bool (rd.ro S.fa k)) := cell_regrown qz
      refine region_below_tail 21 (by kernel_rfl) (by kernel_rfl) ?_
      simp only [List.take_succ_cons, List.take_zero, List.drop_succ_cons, List.drop_zero]
      repeat (quiet_step (first | (go_at_call 160; with_reducible exact rg_ret (cW _ _)) | fail))
      refine wpQuiet_nil ?_
      intro _ hw'
      obtain ⟨⟨dq, osq⟩, hw''⟩ := hw'
      subst hw''
      have gq := gr_rg wr dq osq
      replace G := gr_trans G gq
      replace K := K.grown gq (by simp)
      replace R := R.grown gq (by simp)
      replace K5 := K5.grown gq (by simp)
      replace O := O.kept gq
      replace Hf := Hf.grown gq (by simp)
      replace hs8 := Nat.lt_of_lt_of_le hs8 gq.size
      clear gq e0 e1 e2 e3 e4 e5 e6 e7 e8 e9 e10 cx cy cz co qx qy qz cW lf
      clear x0 x1 x2 x3 x4 x5 x6 x7 x8 x9 x10 x11 x12
      clear y0 y1 y2 y3 y4 y5 y6 y7 y8 y9 y10 y11 y12
      generalize Go.Sort.grow (redrawn wr dq) osq = w2' at *
      obtain ⟨gf', u0, u1, u2, ef', lf, zf', f0, f1, f2, f3, f4, f5, _, O8⟩ := O.fan (k := k) hkL (t1, t2, t3)
      simp only at ef'
      rw [ef] at ef'
      simp only [Option.some.injEq, Addr.mk.injEq, and_true] at ef'
      subst ef'
      have HE := Lib.hid ef
      clear ef
      have dz : gf ≠ zo := by
        intro e
        rw [e] at Hf
        have := Hf.symm.trans K5
        simp at this
      go_wp2_with fail
      go_roundw
      case rel => exact ⟨_, ⟨k + 1, by omega, rfl, ((K.set_other (by omega) _ _).set_other (by omega) _ _).set_other (by omega) _ _, ((R.set_other (by omega) _ _).set_other (by omega) _ _).set_other (by omega) _ _, ((K5.set_other (Ne.symm dz) _ _).set_other (Ne.symm dz) _ _).set_other (Ne.symm dz) _ _, gr_new (gr_new (gr_new G (by omega) _ _) (by omega) _ _) (by omega) _ _, L.set k (t1, t2, t3), ⟨by rw [List.length_set]; exact hL.1, all_set hL.2 k hT⟩, O8⟩, by go_num, HE.out.symm⟩
      case measure => simp [intOf]; omega
    · obtain rfl : k = 6 := by omega
      clear hlt hk
      go_wp2_with fail
      have cO : ∀ W, fan.Arg W pfa L → Calls Tryz.prog 162 #[.slice pfa b.fa.length pfc] W (il.RetI (fan.outIn L) W) := fun W k => by
        rw [show b.fa.length = L.length by rw [HO.out.fa6, hL.1]]
        exact fan.specOutIn pfa pfc L W k (by rw [hL.1]; omega)
      have cK : ∀ W a c, Ints W a (fan.outIn L) → Calls Tryz.prog 161 #[.slice a (fan.outIn L).length c] W fun e w' => e = .returned (.int .i64 (cas.caseOf (fan.outIn L))) ∧ W = w' := fun W a c k => specCaseOf a c (fan.outIn L) W k (by have := fan.outIn_len L; omega) (fun n hn => outIn_mem hn)
      have cX : ∀ W, se.Arg W S pS → Calls Tryz.prog 12 #[se.sv S pS, .int .i64 (cas.caseOf (fan.outIn L)), .int .i64 b.tm] W (Ret (fac (se.factsOf S (cas.caseOf (fan.outIn L)) b.tm)) W) := fun W k => se.specFacts S pS _ b.tm W k (bd_ok hse.out)
      have hf := Lib.hid (factsOk_of S (cas.caseOf (fan.outIn L)) b.tm)
      refine abs3 2 4 5 ?_ rfl rfl rfl rfl rfl
      intro a0 hs0 hd0 g2 g4 g5
      refine iv.region_inv (a0 := a0) 10 (fun i => if i = 9 then 8 else i + 59) (LeftF zo w.heap.size S pS pfa b.fa.length pfc L b.tm) (by kernel_rfl) (by kernel_rfl) (by kernel_rfl) (by decide) (by kernel_rfl) (by kernel_rfl) (fun i j hi hj e => (show ∀ i, i < 10 → ∀ j, j < 10 → (if i = 9 then 8 else i + 59) = (if j = 9 then 8 else j + 59) → i = j by decide) i hi j hj e) (fun i hi => by rw [hs0]; exact (show ∀ i, i < 10 → (if i = 9 then 8 else i + 59) < 109 by decide) i hi) (LeftF.stab zo w.heap.size S pS pfa b.fa.length pfc L b.tm) ?_ ?_
      · intro i o a W hi ho2 hgW hsz2 hdf hold hdeps
        obtain ⟨⟨tl⟩, df⟩ := a
        have ed : df = [] := hdf.trans hd0
        subst ed
        have hlen : tl.length = 109 := hsz2.trans hs0
        clear hsz2 hdf
        refine litE109 tl hlen ?_
        clear hlen
        intro x0 x1 x2 x3 x4 x5 x6 x7 x8 x9 x10 x11 x12 x13 x14 x15 x16 x17 x18 x19 x20 x21 x22 x23 x24 x25 x26 x27 x28 x29 x30 x31 x32 x33 x34 x35 x36 x37 x38 x39 x40 x41 x42 x43 x44 x45 x46 x47 x48 x49 x50 x51 x52 x53 x54 x55 x56 x57 x58 x59 x60 x61 x62 x63 x64 x65 x66 x67 x68 x69 x70 x71 x72 x73 x74 x75 x76 x77 x78 x79 x80 x81 x82 x83 x84 x85 x86 x87 x88 x89 x90 x91 x92 x93 x94 x95 x96 x97 x98 x99 x100 x101 x102 x103 x104 x105 x106 x107 x108 et
        subst et
        have e : some x2 = _ := (hold 2 (fun j hj => by clear hold; revert hj j; decide)).trans g2
        injection e with e
        subst e
        have e : some x4 = _ := (hold 4 (fun j hj => by clear hold; revert hj j; decide)).trans g4
        injection e with e
        subst e
        have e : some x5 = _ := (hold 5 (fun j hj => by clear hold; revert hj j; decide)).trans g5
        injection e with e
        subst e
        clear hold hs0 hd0 g2 g4 g5
        rcases (show i = 0 ∨ i = 1 ∨ i = 2 ∨ i = 3 ∨ i = 4 ∨ i = 5 ∨ i = 6 ∨ i = 7 ∨ i = 8 ∨ i = 9 by omega) with rfl | rfl | rfl | rfl | rfl | rfl | rfl | rfl | rfl | rfl
        all_goals simp at ho2
        all_goals subst ho2
        all_goals simp [Region.binds, LeftF] at hdeps
        · go_wp2_with fail
          exact ⟨gr_refl _ _, rfl⟩
        · subst hdeps
          obtain ⟨⟨⟨y0, y1, y2⟩, y3, y4⟩, ⟨⟨y5, y6, y7⟩, y8, y9, y10⟩, y11, y12⟩ := thirteen (K5.grown hgW (by simp))
          go_wp2_with fail
          exact ⟨gr_refl _ _, rfl⟩
        · go_wp2_with fail
          exact ⟨gr_refl _ _, rfl⟩
        · subst hdeps
          obtain ⟨⟨⟨y0, y1, y2⟩, y3, y4⟩, ⟨⟨y5, y6, y7⟩, y8, y9, y10⟩, y11, y12⟩ := thirteen (K5.grown hgW (by simp))
          go_wp2_with fail
          exact ⟨gr_refl _ _, rfl⟩
        · subst hdeps
          go_wp2_with fail
          refine (cO _ (O.fa.arg.kept hgW)).mono ?_
          rintro e wx ⟨a, c, rfl, r, oa, _⟩
          go_wp2_with fail
          exact ⟨a, c, rfl, oa.ints⟩
        · obtain ⟨a, ⟨c, rfl⟩, ia⟩ := hdeps
          go_wp2_with fail
          refine (cK _ a c ia).mono ?_
          rintro e wx ⟨rfl, rfl⟩
          go_wp2_with fail
          first | exact ⟨gr_refl _ _, rfl⟩ | exact rfl
        · go_wp2_with fail
          exact ⟨gr_refl _ _, rfl⟩
        · subst hdeps
          obtain ⟨⟨⟨x0_, x1_, x2_⟩, x3_, x4_⟩, ⟨⟨x5_, x6_, x7_⟩, x8_, x9_, x10_⟩, x11_, x12_⟩ := thirteen (K.grown hgW (by simp))
          go_wp2_with fail
          exact ⟨gr_refl _ _, rfl⟩
        · first | (obtain ⟨rfl, rfl, rfl⟩ := hdeps) | (obtain ⟨rfl, rfl, rfl, _⟩ := hdeps)
          go_wp2_with fail
          refine (cX _ (O.se.arg.kept hgW)).mono ?_
          rintro e wx ⟨rfl, r⟩
          go_wp2_with fail
          exact rfl
        · go_wp2_with fail
          exact ⟨World.grownBy_alloc _ _ _, W.heap.size, rfl, Nat.lt_of_lt_of_le hs8 hgW.size, Has.fresh _ _ _⟩
      · intro o W hgW hsz2 hdf hold hnew
        obtain ⟨⟨tl⟩, df⟩ := o
        have ed : df = [] := hdf.trans hd0
        subst ed
        have hlen : tl.length = 109 := hsz2.trans hs0
        clear hsz2 hdf
        refine litE109 tl hlen ?_
        clear hlen
        intro x0 x1 x2 x3 x4 x5 x6 x7 x8 x9 x10 x11 x12 x13 x14 x15 x16 x17 x18 x19 x20 x21 x22 x23 x24 x25 x26 x27 x28 x29 x30 x31 x32 x33 x34 x35 x36 x37 x38 x39 x40 x41 x42 x43 x44 x45 x46 x47 x48 x49 x50 x51 x52 x53 x54 x55 x56 x57 x58 x59 x60 x61 x62 x63 x64 x65 x66 x67 x68 x69 x70 x71 x72 x73 x74 x75 x76 x77 x78 x79 x80 x81 x82 x83 x84 x85 x86 x87 x88 x89 x90 x91 x92 x93 x94 x95 x96 x97 x98 x99 x100 x101 x102 x103 x104 x105 x106 x107 x108 et
        subst et
        have e : some x2 = _ := (hold 2 (fun j hj => by clear hold; revert hj j; decide)).trans g2
        injection e with e
        subst e
        have e : some x4 = _ := (hold 4 (fun j hj => by clear hold; revert hj j; decide)).trans g4
        injection e with e
        subst e
        have e : some x5 = _ := (hold 5 (fun j hj => by clear hold; revert hj j; decide)).trans g5
        injection e with e
        subst e
        obtain ⟨v, e, rfl⟩ := hnew 8 (by omega)
        have e : some x67 = _ := e
        injection e with e
        subst e
        obtain ⟨v, e, q, rfl, hq, Q⟩ := hnew 9 (by omega)
        have e : some x8 = _ := e
        injection e with e
        subst e
        clear hnew hold hs0 hd0 g2 g4 g5
        simp only [List.drop_succ_cons, List.drop_zero]
        replace G := gr_trans G hgW
        replace K := K.grown hgW (by simp)
        replace R := R.grown hgW (by simp)
        replace K5 := K5.grown hgW (by simp)
        replace O := O.kept hgW
        replace hs8 := Nat.lt_of_lt_of_le hs8 hgW.size
        generalize se.factsOf S (cas.caseOf (fan.outIn L)) b.tm = f at *
        clear hgW cO cK cX
        obtain ⟨d0, d1, d2, d3, d4, d5, d6, d7⟩ := md.eight Q
        obtain ⟨z0, z1, z2, z3, z4, z5, z6, z7⟩ := md.free8 Q
        go_upto_region 14 with fail
        clear d0 d1 d2 d3 d4 d5 d6 d7 z0 z1 z2 z3 z4 z5 z6 z7
        have S8 : W.grownBy ((((((((W.setCell ⟨q, 0, none⟩ (.int .i64 f.sp)).setCell ⟨q, 1, none⟩ (.bool f.so)).setCell ⟨q, 2, none⟩ (.int .i64 f.h)).setCell ⟨q, 3, none⟩ (.bool f.ho)).setCell ⟨q, 4, none⟩ (.int .i64 f.c)).setCell ⟨q, 5, none⟩ (.bool f.ar)).setCell ⟨q, 6, none⟩ (.int .i64 f.wn)).setCell ⟨q, 7, none⟩ (.int .i64 f.tm)) (some q) := gr_set (gr_set (gr_set (gr_set (gr_set (gr_set (gr_set (gr_set (gr_refl W (some q)) 0 (.int .i64 f.sp)) 1 (.bool f.so)) 2 (.int .i64 f.h)) 3 (.bool f.ho)) 4 (.int .i64 f.c)) 5 (.bool f.ar)) 6 (.int .i64 f.wn)) 7 (.int .i64 f.tm)
        replace K := K.grown S8 (by simp; omega)
        replace R := R.grown S8 (by simp; omega)
        replace K5 := K5.grown S8 (by simp; omega)
        replace O := O.far Q (by decide) (by decide) (by decide) S8
        have hsq : W.heap.size ≤ ((((((((W.setCell ⟨q, 0, none⟩ (.int .i64 f.sp)).setCell ⟨q, 1, none⟩ (.bool f.so)).setCell ⟨q, 2, none⟩ (.int .i64 f.h)).setCell ⟨q, 3, none⟩ (.bool f.ho)).setCell ⟨q, 4, none⟩ (.int .i64 f.c)).setCell ⟨q, 5, none⟩ (.bool f.ar)).setCell ⟨q, 6, none⟩ (.int .i64 f.wn)).setCell ⟨q, 7, none⟩ (.int .i64 f.tm)).heap.size := S8.size
        replace hs8 := Nat.lt_of_lt_of_le hs8 hsq
        replace G := se.gr8 G (show w.heap.size ≤ q by omega) (.int .i64 f.sp) (.bool f.so) (.int .i64 f.h) (.bool f.ho) (.int .i64 f.c) (.bool f.ar) (.int .i64 f.wn) (.int .i64 f.tm)
        replace Q := se.put8 Q (.int .i64 f.sp) (.bool f.so) (.int .i64 f.h) (.bool f.ho) (.int .i64 f.c) (.bool f.ar) (.int .i64 f.wn) (.int .i64 f.tm)
        clear S8 hsq
        generalize (((((((W.setCell ⟨q, 0, none⟩ (.int .i64 f.sp)).setCell ⟨q, 1, none⟩ (.bool f.so)).setCell ⟨q, 2, none⟩ (.int .i64 f.h)).setCell ⟨q, 3, none⟩ (.bool f.ho)).setCell ⟨q, 4, none⟩ (.int .i64 f.c)).setCell ⟨q, 5, none⟩ (.bool f.ar)).setCell ⟨q, 6, none⟩ (.int .i64 f.wn)).setCell ⟨q, 7, none⟩ (.int .i64 f.tm) = v1 at *
        have cN := fun W => md.specNextMode b.md f W
        have hM := modeOk_next b.md f
        generalize md.nextMode b.md f = M at *
        have htm : 0 ≤ b.tm ∧ b.tm ≤ 1000 := by have := HO.out.tm; unfold inb at this; simpa using this
        have nz : w.heap.size ≠ zo := by omega
        have nr : w.heap.size + 1 ≠ zo := by omega
        have lz : w.heap.size ≤ zo := by omega
        have nq : q ≠ zo := by omega
        obtain ⟨⟨⟨k0, k1, k2⟩, k3, k4⟩, ⟨⟨k5, k6, k7⟩, k8, k9, k10⟩, k11, k12⟩ := thirteen K
        obtain ⟨q0, q1, q2, q3, q4, q5, q6, q7⟩ := md.eight Q
        go_wp2_with fail
        refine (cN _).mono ?_
        rintro e v2 ⟨rfl, r⟩
        clear k0 k1 k2 k3 k4 k5 k6 k7 k8 k9 k10 k11 k12
        clear q0 q1 q2 q3 q4 q5 q6 q7
        replace G := gr_trans G r
        replace K := K.grown r (by simp)
        replace R := R.grown r (by simp)
        replace K5 := K5.grown r (by simp)
        replace Q := Q.grown r (by simp)
        replace O := O.kept r
        replace hs8 := Nat.lt_of_lt_of_le hs8 r.size
        clear r cN
        obtain ⟨⟨⟨y0, y1, y2⟩, y3, y4⟩, ⟨⟨y5, y6, y7⟩, y8, y9, y10⟩, y11, y12⟩ := thirteen K5
        obtain ⟨⟨⟨f0, f1, f2⟩, f3, f4⟩, ⟨⟨f5, f6, f7⟩, f8, f9, f10⟩, f11, f12⟩ := free13 K5
        go_upto_region 15 with fail
        clear y0 y1 y2 y3 y4 y5 y6 y7 y8 y9 y10 y11 y12
        clear f0 f1 f2 f3 f4 f5 f6 f7 f8 f9 f10 f11 f12
        replace G := gr_new G lz 0 (.int .i64 M)
        replace K := K.set_other nz 0 (.int .i64 M)
        replace R := R.set_other nr 0 (.int .i64 M)
        replace Q := Q.set_other nq 0 (.int .i64 M)
        replace O := O.far K5 (by decide) (by decide) (by decide) (gr_set (gr_refl _ (some zo)) 0 (.int .i64 M))
        replace K5 := put0 K5 (.int .i64 M)
        replace hs8 : zo < (v2.setCell ⟨zo, 0, none⟩ (.int .i64 M)).heap.size := by simpa using hs8
        generalize v2.setCell ⟨zo, 0, none⟩ (.int .i64 M) = v3 at *
        obtain ⟨⟨⟨k0, k1, k2⟩, k3, k4⟩, ⟨⟨k5, k6, k7⟩, k8, k9, k10⟩, k11, k12⟩ := thirteen K
        obtain ⟨⟨⟨y0, y1, y2⟩, y3, y4⟩, ⟨⟨y5, y6, y7⟩, y8, y9, y10⟩, y11, y12⟩ := thirteen K5
        obtain ⟨⟨⟨f0, f1, f2⟩, f3, f4⟩, ⟨⟨f5, f6, f7⟩, f8, f9, f10⟩, f11, f12⟩ := free13 K5
        go_wp2_with fail
        refine (fix.specMin 1000 (b.tm + 1) _).mono ?_
        rintro e v4 ⟨rfl, rfl⟩
        go_upto_region 16 with fail
        clear k0 k1 k2 k3 k4 k5 k6 k7 k8 k9 k10 k11 k12
        clear y0 y1 y2 y3 y4 y5 y6 y7 y8 y9 y10 y11 y12
        clear f0 f1 f2 f3 f4 f5 f6 f7 f8 f9 f10 f11 f12
        obtain ⟨T0, hT0⟩ : ∃ T : Int, min 1000 (b.tm + 1) = T := ⟨_, rfl⟩
        have hTb : 0 ≤ T0 ∧ T0 ≤ 1000 := by omega
        rw [hT0]
        clear hT0
        replace G := gr_new G lz 1 (.int .i64 T0)
        replace K := K.set_other nz 1 (.int .i64 T0)
        replace R := R.set_other nr 1 (.int .i64 T0)
        replace Q := Q.set_other nq 1 (.int .i64 T0)
        replace O := O.far K5 (by decide) (by decide) (by decide) (gr_set (gr_refl _ (some zo)) 1 (.int .i64 T0))
        replace K5 := put1 K5 (.int .i64 T0)
        replace hs8 : zo < (v3.setCell ⟨zo, 1, none⟩ (.int .i64 T0)).heap.size := by simpa using hs8
        generalize v3.setCell ⟨zo, 1, none⟩ (.int .i64 T0) = v5 at *
        obtain ⟨⟨⟨k0, k1, k2⟩, k3, k4⟩, ⟨⟨k5, k6, k7⟩, k8, k9, k10⟩, k11, k12⟩ := thirteen K
        obtain ⟨⟨⟨y0, y1, y2⟩, y3, y4⟩, ⟨⟨y5, y6, y7⟩, y8, y9, y10⟩, y11, y12⟩ := thirteen K5
        obtain ⟨⟨⟨f0, f1, f2⟩, f3, f4⟩, ⟨⟨f5, f6, f7⟩, f8, f9, f10⟩, f11, f12⟩ := free13 K5
        go_upto_if 82 with fail
        go_cut [] (fun wx => ∃ T : Int, (0 ≤ T ∧ T ≤ 1000) ∧ Has wx w.heap.size 88 (cs13 b p) ∧ Has wx (w.heap.size + 1) 88 z13 ∧ Has wx zo 88 #[.int .i64 M, .int .i64 T, .slice pfa b.fa.length pfc, .int .i64 b.ga.1, .bool b.ga.2, .slice pS.a1 S.sp.length pS.c1, .slice pS.a2 S.he.length pS.c2, .slice pS.a3 S.fa.length pS.c3, .int .i64 S.wn, .bool S.ar, .slice pS.a4 S.sq.length pS.c4, .slice pou b.ou.length poc, str rs] ∧ Has wx q 35 (cs8 f) ∧ OwnB w1.heap.size wx ⟨0, 0, L, (0, false), S, b.ou, []⟩ ⟨pfa, pfc, pS, pou, poc⟩ ∧ zo < wx.heap.size ∧ w.grownBy wx none)
        case first =>
          by_cases hMd : M = b.md
          · have m1 : (M == b.md) = true := beq_iff_eq.2 hMd
            have m2 : (M != b.md) = false := by simp [hMd]
            have m3 : decide (M = b.md) = true := decide_eq_true hMd
            clear hMd
            go_wp2_with fail
            go_meet
            exact ⟨T0, hTb, K, R, K5, Q, O, hs8, G⟩
          · have m1 : (M == b.md) = false := beq_eq_false_iff_ne.2 hMd
            have m2 : (M != b.md) = true := by simp [hMd]
            have m3 : decide (M = b.md) = false := decide_eq_false hMd
            clear hMd
            go_wp2_with fail
            go_meet
            exact ⟨0, ⟨by omega, by omega⟩, K.set_other nz 1 _, R.set_other nr 1 _, put1 K5 _, Q.set_other nq 1 _, O.far K5 (by decide) (by decide) (by decide) (gr_set (gr_refl _ (some zo)) 1 _), by simpa using hs8, gr_new G lz 1 _⟩
        case rest =>
          clear K R K5 Q O hs8 G k0 k1 k2 k3 k4 k5 k6 k7 k8 k9 k10 k11 k12
          clear y0 y1 y2 y3 y4 y5 y6 y7 y8 y9 y10 y11 y12
          clear f0 f1 f2 f3 f4 f5 f6 f7 f8 f9 f10 f11 f12
          obtain ⟨T, hT, K, R, K5, Q, O, hs8, G⟩ := hcut
          go_upto_region 18 with fail
          have cU := fun W => specOuts M f W hf.out
          have hU := seven_slew ⟨HO.out.ou7, HO.out.ou⟩ (seven_outs M hf.out)
          have hUl := Lib.hid (seven_outs M hf.out).1
          have cW : ∀ W a c, Ints W p.ou b.ou → Ints W a (outsOf M f) → Calls Tryz.prog 164 #[.slice p.ou b.ou.length p.oc, .slice a (outsOf M f).length c, .int .i64 100] W (il.RetI (bl.slew b.ou (outsOf M f) 100) W) := fun W a c k k2 => bl.specSlewed p.ou a p.oc c b.ou (outsOf M f) 100 W k k2 (by rw [HO.out.ou7]; unfold maxLen; omega) (by rw [hUl.out]; unfold maxLen; omega) (by omega) (by omega)
          refine abs4 2 4 5 8 ?_ rfl rfl rfl rfl rfl rfl
          intro a0 hs0 hd0 g2 g4 g5 g8
          refine iv.region_inv (a0 := a0) 8 (fun i => i + 84) (LeftU zo w.heap.size p.ou b.ou p.oc M f) (by kernel_rfl) (by kernel_rfl) (by kernel_rfl) (by decide) (by kernel_rfl) (by kernel_rfl) (fun i j hi hj e => by simpa using e) (fun i hi => by rw [hs0]; exact (show ∀ i, i < 8 → i + 84 < 109 by decide) i hi) (LeftU.stab zo w.heap.size p.ou b.ou p.oc M f) ?_ ?_
          · intro i o a W hi ho2 hgW hsz2 hdf hold hdeps
            obtain ⟨⟨tl⟩, df⟩ := a
            have ed : df = [] := hdf.trans hd0
            subst ed
            have hlen : tl.length = 109 := hsz2.trans hs0
            clear hsz2 hdf
            refine litE109 tl hlen ?_
            clear hlen
            intro x0 x1 x2 x3 x4 x5 x6 x7 x8 x9 x10 x11 x12 x13 x14 x15 x16 x17 x18 x19 x20 x21 x22 x23 x24 x25 x26 x27 x28 x29 x30 x31 x32 x33 x34 x35 x36 x37 x38 x39 x40 x41 x42 x43 x44 x45 x46 x47 x48 x49 x50 x51 x52 x53 x54 x55 x56 x57 x58 x59 x60 x61 x62 x63 x64 x65 x66 x67 x68 x69 x70 x71 x72 x73 x74 x75 x76 x77 x78 x79 x80 x81 x82 x83 x84 x85 x86 x87 x88 x89 x90 x91 x92 x93 x94 x95 x96 x97 x98 x99 x100 x101 x102 x103 x104 x105 x106 x107 x108 et
            subst et
            have e : some x2 = _ := (hold 2 (fun j hj => by clear hold; revert hj j; decide)).trans g2
            injection e with e
            subst e
            have e : some x4 = _ := (hold 4 (fun j hj => by clear hold; revert hj j; decide)).trans g4
            injection e with e
            subst e
            have e : some x5 = _ := (hold 5 (fun j hj => by clear hold; revert hj j; decide)).trans g5
            injection e with e
            subst e
            have e : some x8 = _ := (hold 8 (fun j hj => by clear hold; revert hj j; decide)).trans g8
            injection e with e
            subst e
            clear hold hs0 hd0 g2 g4 g5 g8
            rcases (show i = 0 ∨ i = 1 ∨ i = 2 ∨ i = 3 ∨ i = 4 ∨ i = 5 ∨ i = 6 ∨ i = 7 by omega) with rfl | rfl | rfl | rfl | rfl | rfl | rfl | rfl
            all_goals simp at ho2
            all_goals subst ho2
            all_goals simp [Region.binds, LeftU] at hdeps
            · go_wp2_with fail
              exact ⟨gr_refl _ _, rfl⟩
            · subst hdeps
              obtain ⟨⟨⟨k0, k1, k2⟩, k3, k4⟩, ⟨⟨k5, k6, k7⟩, k8, k9, k10⟩, k11, k12⟩ := thirteen (K.grown hgW (by simp))
              go_wp2_with fail
              exact ⟨gr_refl _ _, rfl⟩
            · go_wp2_with fail
              exact ⟨gr_refl _ _, rfl⟩
            · subst hdeps
              obtain ⟨⟨⟨k0, k1, k2⟩, k3, k4⟩, ⟨⟨k5, k6, k7⟩, k8, k9, k10⟩, k11, k12⟩ := thirteen (K5.grown hgW (by simp))
              go_wp2_with fail
              exact ⟨gr_refl _ _, rfl⟩
            · obtain ⟨q0, q1, q2, q3, q4, q5, q6, q7⟩ := md.eight (Q.grown hgW (by simp))
              go_wp2_with fail
              exact ⟨gr_refl _ _, rfl⟩
            · obtain ⟨rfl, rfl⟩ := hdeps
              go_wp2_with fail
              refine (cU _).mono ?_
              rintro e wx ⟨a, c, rfl, r, oa, _⟩
              go_wp2_with fail
              exact ⟨a, c, rfl, oa.ints⟩
            · first | (obtain ⟨rfl, a, ⟨c, rfl⟩, ia⟩ := hdeps) | (obtain ⟨rfl, ⟨a, ⟨c, rfl⟩, ia⟩, _⟩ := hdeps)
              go_wp2_with fail
              refine (cW _ a c (h.ou.kept (gr_trans G hgW)) ia).mono ?_
              rintro e wx ⟨a2, c2, rfl, r, oa, ba⟩
              go_wp2_with fail
              exact ⟨a2, c2, rfl, oa, fun x e => by have := ba x e; have := hgW.size; omega⟩
            · go_wp2_with fail
              exact ⟨gr_refl _ _, rfl⟩
          · intro o W hgW hsz2 hdf hold hnew
            obtain ⟨⟨tl⟩, df⟩ := o
            have ed : df = [] := hdf.trans hd0
            subst ed
            have hlen : tl.length = 109 := hsz2.trans hs0
            clear hsz2 hdf
            refine litE109 tl hlen ?_
            clear hlen
            intro x0 x1 x2 x3 x4 x5 x6 x7 x8 x9 x10 x11 x12 x13 x14 x15 x16 x17 x18 x19 x20 x21 x22 x23 x24 x25 x26 x27 x28 x29 x30 x31 x32 x33 x34 x35 x36 x37 x38 x39 x40 x41 x42 x43 x44 x45 x46 x47 x48 x49 x50 x51 x52 x53 x54 x55 x56 x57 x58 x59 x60 x61 x62 x63 x64 x65 x66 x67 x68 x69 x70 x71 x72 x73 x74 x75 x76 x77 x78 x79 x80 x81 x82 x83 x84 x85 x86 x87 x88 x89 x90 x91 x92 x93 x94 x95 x96 x97 x98 x99 x100 x101 x102 x103 x104 x105 x106 x107 x108 et
            subst et
            have e : some x2 = _ := (hold 2 (fun j hj => by clear hold; revert hj j; decide)).trans g2
            injection e with e
            subst e
            have e : some x4 = _ := (hold 4 (fun j hj => by clear hold; revert hj j; decide)).trans g4
            injection e with e
            subst e
            have e : some x5 = _ := (hold 5 (fun j hj => by clear hold; revert hj j; decide)).trans g5
            injection e with e
            subst e
            have e : some x8 = _ := (hold 8 (fun j hj => by clear hold; revert hj j; decide)).trans g8
            injection e with e
            subst e
            obtain ⟨v, e, aU, cU, rfl, oU, bU⟩ := hnew 6 (by omega)
            have e : some x90 = _ := e
            injection e with e
            subst e
            obtain ⟨v, e, rfl⟩ := hnew 7 (by omega)
            have e : some x91 = _ := e
            injection e with e
            subst e
            clear hnew hold hs0 hd0 g2 g4 g5 g8
            simp only [List.drop_succ_cons, List.drop_zero]
            replace G := gr_trans G hgW
            replace K := K.grown hgW (by simp)
            replace R := R.grown hgW (by simp)
            replace K5 := K5.grown hgW (by simp)
            replace Q := Q.grown hgW (by simp)
            replace O := O.kept hgW
            replace hs8 := Nat.lt_of_lt_of_le hs8 hgW.size
            have O19 : OwnB w1.heap.size W ⟨0, 0, L, (0, false), S, bl.slew b.ou (outsOf M f) 100, []⟩ ⟨pfa, pfc, pS, aU, cU⟩ := ⟨O.fa, O.se, oU, O.zf, fun x e => Nat.le_trans hz1 (bU x e)⟩
            clear O oU bU cW hgW hUl
            generalize bl.slew b.ou (outsOf M f) 100 = U at *
            obtain ⟨⟨⟨f0, f1, f2⟩, f3, f4⟩, ⟨⟨f5, f6, f7⟩, f8, f9, f10⟩, f11, f12⟩ := free13 K5
            obtain ⟨⟨⟨y0, y1, y2⟩, y3, y4⟩, ⟨⟨y5, y6, y7⟩, y8, y9, y10⟩, y11, y12⟩ := thirteen K5
            go_upto_region 19 with fail
            clear y0 y1 y2 y3 y4 y5 y6 y7 y8 y9 y10 y11 y12
            clear f0 f1 f2 f3 f4 f5 f6 f7 f8 f9 f10 f11 f12
            have O := O19
            clear O19
            replace G := gr_new G lz 11 (.slice aU U.length cU)
            replace K := K.set_other nz 11 (.slice aU U.length cU)
            replace R := R.set_other nr 11 (.slice aU U.length cU)
            replace Q := Q.set_other nq 11 (.slice aU U.length cU)
            replace O := O.far K5 (by decide) (by decide) (by decide) (gr_set (gr_refl _ (some zo)) 11 (.slice aU U.length cU))
            replace K5 := put11 K5 (.slice aU U.length cU)
            replace hs8 : zo < (W.setCell ⟨zo, 11, none⟩ (.slice aU U.length cU)).heap.size := by simpa using hs8
            generalize W.setCell ⟨zo, 11, none⟩ (.slice aU U.length cU) = v6 at *
            have hΓ := fun ch st => gated_in (g := b.ga) ch st f HO.out.ga
            have hOU : O.ou.ints = O.ou.ints := rfl
            clear hOU
            have cI1 : ∀ d os, Calls Tryz.prog 167 #[.slice p.ou b.ou.length p.oc] (Go.Sort.grow (redrawn v6 d) os) fun e w' => e = .returned (.bool (still b.ou)) ∧ Go.Sort.grow (redrawn v6 d) os = w' := fun d os => specIsStill p.ou p.oc b.ou _ (h.ou.kept (gr_trans G (gr_rg v6 d os))) (by rw [HO.out.ou7]; unfold maxLen; omega)
            have cI2 : ∀ d os, Calls Tryz.prog 167 #[.slice aU U.length cU] (Go.Sort.grow (redrawn v6 d) os) fun e w' => e = .returned (.bool (still U)) ∧ Go.Sort.grow (redrawn v6 d) os = w' := fun d os => specIsStill aU cU U _ (O.ou.ints.kept (gr_rg v6 d os)) (by rw [hU.1]; unfold maxLen; omega)
            obtain ⟨⟨⟨k0, k1, k2⟩, k3, k4⟩, ⟨⟨k5, k6, k7⟩, k8, k9, k10⟩, k11, k12⟩ := thirteen K
            obtain ⟨⟨⟨y0, y1, y2⟩, y3, y4⟩, ⟨⟨y5, y6, y7⟩, y8, y9, y10⟩, y11, y12⟩ := thirteen K5
            obtain ⟨q0, q1, q2, q3, q4, q5, q6, q7⟩ := md.eight Q
            have e0 : ∀ d os, (Go.Sort.grow (redrawn v6 d) os).cell? ⟨w.heap.size, 3, none⟩ = some (.int .i64 b.ga.1) := cell_regrown k3
            have e1 : ∀ d os, (Go.Sort.grow (redrawn v6 d) os).cell? ⟨w.heap.size, 4, none⟩ = some (.bool b.ga.2) := cell_regrown k4
            have e2 : ∀ d os, (Go.Sort.grow (redrawn v6 d) os).cell? ⟨zo, 0, none⟩ = some (.int .i64 M) := cell_regrown y0
            have e3 : ∀ d os, (Go.Sort.grow (redrawn v6 d) os).cell? ⟨w.heap.size, 11, none⟩ = some (.slice p.ou b.ou.length p.oc) := cell_regrown k11
            have e4 : ∀ d os, (Go.Sort.grow (redrawn v6 d) os).cell? ⟨zo, 11, none⟩ = some (.slice aU U.length cU) := cell_regrown y11
            have e5 : ∀ d os, (Go.Sort.grow (redrawn v6 d) os).cell? ⟨q, 0, none⟩ = some (.int .i64 f.sp) := cell_regrown q0
            have e6 : ∀ d os, (Go.Sort.grow (redrawn v6 d) os).cell? ⟨q, 1, none⟩ = some (.bool f.so) := cell_regrown q1
            have e7 : ∀ d os, (Go.Sort.grow (redrawn v6 d) os).cell? ⟨q, 2, none⟩ = some (.int .i64 f.h) := cell_regrown q2
            have e8 : ∀ d os, (Go.Sort.grow (redrawn v6 d) os).cell? ⟨q, 3, none⟩ = some (.bool f.ho) := cell_regrown q3
            have e9 : ∀ d os, (Go.Sort.grow (redrawn v6 d) os).cell? ⟨q, 4, none⟩ = some (.int .i64 f.c) := cell_regrown q4
            have e10 : ∀ d os, (Go.Sort.grow (redrawn v6 d) os).cell? ⟨q, 5, none⟩ = some (.bool f.ar) := cell_regrown q5
            have e11 : ∀ d os, (Go.Sort.grow (redrawn v6 d) os).cell? ⟨q, 6, none⟩ = some (.int .i64 f.wn) := cell_regrown q6
            have e12 : ∀ d os, (Go.Sort.grow (redrawn v6 d) os).cell? ⟨q, 7, none⟩ = some (.int .i64 f.tm) := cell_regrown q7
            clear k0 k1 k2 k3 k4 k5 k6 k7 k8 k9 k10 k11 k12
            clear y0 y1 y2 y3 y4 y5 y6 y7 y8 y9 y10 y11 y12
            clear q0 q1 q2 q3 q4 q5 q6 q7
            cases hs1 : still b.ou
            · rw [hs1] at cI1
              have cG1 : ∀ d os, Calls Tryz.prog 166 #[gt.gv b.ga, .bool (M == 5), .bool false, fac f] (Go.Sort.grow (redrawn v6 d) os) (Ret (gt.gv (gt.gated b.ga (M == 5) false f)) (Go.Sort.grow (redrawn v6 d) os)) := fun d os => gt.specGated b.ga (M == 5) false f _
              have cG2 : ∀ d os, Calls Tryz.prog 166 #[gt.gv b.ga, .bool (decide (M = 5)), .bool false, fac f] (Go.Sort.grow (redrawn v6 d) os) (Ret (gt.gv (gt.gated b.ga (M == 5) false f)) (Go.Sort.grow (redrawn v6 d) os)) := fun d os => gt.specGated b.ga (M == 5) false f _
              replace hΓ := hΓ (M == 5) false
              generalize gt.gated b.ga (M == 5) false f = Γ at *
              refine region_below_tail 16 (by kernel_rfl) (by kernel_rfl) ?_
              simp only [List.take_succ_cons, List.take_zero, List.drop_succ_cons, List.drop_zero]
              repeat (quiet_step (first | (go_at_call 167; first | with_reducible exact rg_same (cI1 _ _) | with_reducible exact rg_same (cI2 _ _)) | (go_at_call 166; first | with_reducible exact rg_ret (cG1 _ _) | with_reducible exact rg_ret (cG2 _ _)) | fail))
              refine wpQuiet_nil ?_
              intro _ hw'
              obtain ⟨⟨dq, osq⟩, hw''⟩ := hw'
              subst hw''
              have gq := gr_rg v6 dq osq
              replace G := gr_trans G gq
              replace K := K.grown gq (by simp)
              replace R := R.grown gq (by simp)
              replace K5 := K5.grown gq (by simp)
              replace Q := Q.grown gq (by simp)
              replace O := O.kept gq
              replace hs8 := Nat.lt_of_lt_of_le hs8 gq.size
              clear gq e0 e1 e2 e3 e4 e5 e6 e7 e8 e9 e10 e11 e12 cI1 cI2 cG1 cG2
              generalize Go.Sort.grow (redrawn v6 dq) osq = v7 at *
              obtain ⟨⟨⟨y0, y1, y2⟩, y3, y4⟩, ⟨⟨y5, y6, y7⟩, y8, y9, y10⟩, y11, y12⟩ := thirteen K5
              obtain ⟨⟨⟨f0, f1, f2⟩, f3, f4⟩, ⟨⟨f5, f6, f7⟩, f8, f9, f10⟩, f11, f12⟩ := free13 K5
              go_upto_region 20 with fail
              clear y0 y1 y2 y3 y4 y5 y6 y7 y8 y9 y10 y11 y12
              clear f0 f1 f2 f3 f4 f5 f6 f7 f8 f9 f10 f11 f12
              replace G := gr_new G lz 3 (.int .i64 Γ.1)
              replace K := K.set_other nz 3 (.int .i64 Γ.1)
              replace R := R.set_other nr 3 (.int .i64 Γ.1)
              replace Q := Q.set_other nq 3 (.int .i64 Γ.1)
              replace O := O.far K5 (by decide) (by decide) (by decide) (gr_set (gr_refl _ (some zo)) 3 (.int .i64 Γ.1))
              replace K5 := put3 K5 (.int .i64 Γ.1)
              replace hs8 : zo < (v7.setCell ⟨zo, 3, none⟩ (.int .i64 Γ.1)).heap.size := by simpa using hs8
              generalize v7.setCell ⟨zo, 3, none⟩ (.int .i64 Γ.1) = v8 at *
              replace G := gr_new G lz 4 (.bool Γ.2)
              replace K := K.set_other nz 4 (.bool Γ.2)
              replace R := R.set_other nr 4 (.bool Γ.2)
              replace Q := Q.set_other nq 4 (.bool Γ.2)
              replace O := O.far K5 (by decide) (by decide) (by decide) (gr_set (gr_refl _ (some zo)) 4 (.bool Γ.2))
              replace K5 := put4 K5 (.bool Γ.2)
              replace hs8 : zo < (v8.setCell ⟨zo, 4, none⟩ (.bool Γ.2)).heap.size := by simpa using hs8
              generalize v8.setCell ⟨zo, 4, none⟩ (.bool Γ.2) = v9 at *
              obtain ⟨⟨⟨y0, y1, y2⟩, y3, y4⟩, ⟨⟨y5, y6, y7⟩, y8, y9, y10⟩, y11, y12⟩ := thirteen K5
              obtain ⟨⟨⟨k0, k1, k2⟩, k3, k4⟩, ⟨⟨k5, k6, k7⟩, k8, k9, k10⟩, k11, k12⟩ := thirteen R
              obtain ⟨⟨⟨f0, f1, f2⟩, f3, f4⟩, ⟨⟨f5, f6, f7⟩, f8, f9, f10⟩, f11, f12⟩ := free13 R
              go_wp2_with fail
              clear k0 k1 k2 k3 k4 k5 k6 k7 k8 k9 k10 k11 k12
              clear y0 y1 y2 y3 y4 y5 y6 y7 y8 y9 y10 y11 y12
              clear f0 f1 f2 f3 f4 f5 f6 f7 f8 f9 f10 f11 f12
              replace O := O.low (chg_lay v9 (w.heap.size + 1) (.int .i64 M) (.int .i64 T) (.slice pfa b.fa.length pfc) (.int .i64 Γ.1) (.bool Γ.2) (.slice pS.a1 S.sp.length pS.c1) (.slice pS.a2 S.he.length pS.c2) (.slice pS.a3 S.fa.length pS.c3) (.int .i64 S.wn) (.bool S.ar) (.slice pS.a4 S.sq.length pS.c4) (.slice aU U.length cU) (str rs)) hsW
              replace G := gr_lay G (show w.heap.size ≤ w.heap.size + 1 by omega) (.int .i64 M) (.int .i64 T) (.slice pfa b.fa.length pfc) (.int .i64 Γ.1) (.bool Γ.2) (.slice pS.a1 S.sp.length pS.c1) (.slice pS.a2 S.he.length pS.c2) (.slice pS.a3 S.fa.length pS.c3) (.int .i64 S.wn) (.bool S.ar) (.slice pS.a4 S.sq.length pS.c4) (.slice aU U.length cU) (str rs)
              replace R := set_lay R (.int .i64 M) (.int .i64 T) (.slice pfa b.fa.length pfc) (.int .i64 Γ.1) (.bool Γ.2) (.slice pS.a1 S.sp.length pS.c1) (.slice pS.a2 S.he.length pS.c2) (.slice pS.a3 S.fa.length pS.c3) (.int .i64 S.wn) (.bool S.ar) (.slice pS.a4 S.sq.length pS.c4) (.slice aU U.length cU) (str rs)
              have e6 : b.fa.length = L.length := by rw [HO.out.fa6, hL.1]
              obtain ⟨⟨⟨u0, u1, u2⟩, u3, u4⟩, ⟨⟨u5, u6, u7⟩, u8, u9, u10⟩, u11, u12⟩ := thirteen R
              exact bodyPost_ret (v := bv ⟨M, T, L, Γ, S, U, rs⟩ ⟨pfa, pfc, pS, aU, cU⟩) (by simp [results, Tryz.results146, go_sem, u0, u1, u2, u3, u4, u5, u6, u7, u8, u9, u10, u11, u12]; first | exact e6 | omega) rfl ⟨⟨M, T, L, Γ, S, U, rs⟩, ⟨pfa, pfc, pS, aU, cU⟩, rfl, G, ⟨O.fa, O.se.below (by omega), O.ou, fun x e => by have := O.zf x e; omega, fun x e => by have := O.zo x e; omega⟩, ⟨hM, by unfold inb; simp; omega, hL.2, hL.1, hΓ, hse.out, hU.2, hU.1, hrs.out⟩⟩
            · rw [hs1] at cI1
              have cG1 : ∀ d os, Calls Tryz.prog 166 #[gt.gv b.ga, .bool (M == 5), .bool (still U), fac f] (Go.Sort.grow (redrawn v6 d) os) (Ret (gt.gv (gt.gated b.ga (M == 5) (still U) f)) (Go.Sort.grow (redrawn v6 d) os)) := fun d os => gt.specGated b.ga (M == 5) (still U) f _
              have cG2 : ∀ d os, Calls Tryz.prog 166 #[gt.gv b.ga, .bool (decide (M = 5)), .bool (still U), fac f] (Go.Sort.grow (redrawn v6 d) os) (Ret (gt.gv (gt.gated b.ga (M == 5) (still U) f)) (Go.Sort.grow (redrawn v6 d) os)) := fun d os => gt.specGated b.ga (M == 5) (still U) f _
              replace hΓ := hΓ (M == 5) (still U)
              generalize gt.gated b.ga (M == 5) (still U) f = Γ at *
              refine region_below_tail 16 (by kernel_rfl) (by kernel_rfl) ?_
              simp only [List.take_succ_cons, List.take_zero, List.drop_succ_cons, List.drop_zero]
              repeat (quiet_step (first | (go_at_call 167; first | with_reducible exact rg_same (cI1 _ _) | with_reducible exact rg_same (cI2 _ _)) | (go_at_call 166; first | with_reducible exact rg_ret (cG1 _ _) | with_reducible exact rg_ret (cG2 _ _)) | fail))
              refine wpQuiet_nil ?_
              intro _ hw'
              obtain ⟨⟨dq, osq⟩, hw''⟩ := hw'
              subst hw''
              have gq := gr_rg v6 dq osq
              replace G := gr_trans G gq
              replace K := K.grown gq (by simp)
              replace R := R.grown gq (by simp)
              replace K5 := K5.grown gq (by simp)
              replace Q := Q.grown gq (by simp)
              replace O := O.kept gq
              replace hs8 := Nat.lt_of_lt_of_le hs8 gq.size
              clear gq e0 e1 e2 e3 e4 e5 e6 e7 e8 e9 e10 e11 e12 cI1 cI2 cG1 cG2
              generalize Go.Sort.grow (redrawn v6 dq) osq = v7 at *
              obtain ⟨⟨⟨y0, y1, y2⟩, y3, y4⟩, ⟨⟨y5, y6, y7⟩, y8, y9, y10⟩, y11, y12⟩ := thirteen K5
              obtain ⟨⟨⟨f0, f1, f2⟩, f3, f4⟩, ⟨⟨f5, f6, f7⟩, f8, f9, f10⟩, f11, f12⟩ := free13 K5
              go_upto_region 20 with fail
              clear y0 y1 y2 y3 y4 y5 y6 y7 y8 y9 y10 y11 y12
              clear f0 f1 f2 f3 f4 f5 f6 f7 f8 f9 f10 f11 f12
              replace G := gr_new G lz 3 (.int .i64 Γ.1)
              replace K := K.set_other nz 3 (.int .i64 Γ.1)
              replace R := R.set_other nr 3 (.int .i64 Γ.1)
              replace Q := Q.set_other nq 3 (.int .i64 Γ.1)
              replace O := O.far K5 (by decide) (by decide) (by decide) (gr_set (gr_refl _ (some zo)) 3 (.int .i64 Γ.1))
              replace K5 := put3 K5 (.int .i64 Γ.1)
              replace hs8 : zo < (v7.setCell ⟨zo, 3, none⟩ (.int .i64 Γ.1)).heap.size := by simpa using hs8
              generalize v7.setCell ⟨zo, 3, none⟩ (.int .i64 Γ.1) = v8 at *
              replace G := gr_new G lz 4 (.bool Γ.2)
              replace K := K.set_other nz 4 (.bool Γ.2)
              replace R := R.set_other nr 4 (.bool Γ.2)
              replace Q := Q.set_other nq 4 (.bool Γ.2)
              replace O := O.far K5 (by decide) (by decide) (by decide) (gr_set (gr_refl _ (some zo)) 4 (.bool Γ.2))
              replace K5 := put4 K5 (.bool Γ.2)
              replace hs8 : zo < (v8.setCell ⟨zo, 4, none⟩ (.bool Γ.2)).heap.size := by simpa using hs8
              generalize v8.setCell ⟨zo, 4, none⟩ (.bool Γ.2) = v9 at *
              obtain ⟨⟨⟨y0, y1, y2⟩, y3, y4⟩, ⟨⟨y5, y6, y7⟩, y8, y9, y10⟩, y11, y12⟩ := thirteen K5
              obtain ⟨⟨⟨k0, k1, k2⟩, k3, k4⟩, ⟨⟨k5, k6, k7⟩, k8, k9, k10⟩, k11, k12⟩ := thirteen R
              obtain ⟨⟨⟨f0, f1, f2⟩, f3, f4⟩, ⟨⟨f5, f6, f7⟩, f8, f9, f10⟩, f11, f12⟩ := free13 R
              go_wp2_with fail
              clear k0 k1 k2 k3 k4 k5 k6 k7 k8 k9 k10 k11 k12
              clear y0 y1 y2 y3 y4 y5 y6 y7 y8 y9 y10 y11 y12
              clear f0 f1 f2 f3 f4 f5 f6 f7 f8 f9 f10 f11 f12
              replace O := O.low (chg_lay v9 (w.heap.size + 1) (.int .i64 M) (.int .i64 T) (.slice pfa b.fa.length pfc) (.int .i64 Γ.1) (.bool Γ.2) (.slice pS.a1 S.sp.length pS.c1) (.slice pS.a2 S.he.length pS.c2) (.slice pS.a3 S.fa.length pS.c3) (.int .i64 S.wn) (.bool S.ar) (.slice pS.a4 S.sq.length pS.c4) (.slice aU U.length cU) (str rs)) hsW
              replace G := gr_lay G (show w.heap.size ≤ w.heap.size + 1 by omega) (.int .i64 M) (.int .i64 T) (.slice pfa b.fa.length pfc) (.int .i64 Γ.1) (.bool Γ.2) (.slice pS.a1 S.sp.length pS.c1) (.slice pS.a2 S.he.length pS.c2) (.slice pS.a3 S.fa.length pS.c3) (.int .i64 S.wn) (.bool S.ar) (.slice pS.a4 S.sq.length pS.c4) (.slice aU U.length cU) (str rs)
              replace R := set_lay R (.int .i64 M) (.int .i64 T) (.slice pfa b.fa.length pfc) (.int .i64 Γ.1) (.bool Γ.2) (.slice pS.a1 S.sp.length pS.c1) (.slice pS.a2 S.he.length pS.c2) (.slice pS.a3 S.fa.length pS.c3) (.int .i64 S.wn) (.bool S.ar) (.slice pS.a4 S.sq.length pS.c4) (.slice aU U.length cU) (str rs)
              have e6 : b.fa.length = L.length := by rw [HO.out.fa6, hL.1]
              obtain ⟨⟨⟨u0, u1, u2⟩, u3, u4⟩, ⟨⟨u5, u6, u7⟩, u8, u9, u10⟩, u11, u12⟩ := thirteen R
              exact bodyPost_ret (v := bv ⟨M, T, L, Γ, S, U, rs⟩ ⟨pfa, pfc, pS, aU, cU⟩) (by simp [results, Tryz.results146, go_sem, u0, u1, u2, u3, u4, u5, u6, u7, u8, u9, u10, u11, u12]; first | exact e6 | omega) rfl ⟨⟨M, T, L, Γ, S, U, rs⟩, ⟨pfa, pfc, pS, aU, cU⟩, rfl, G, ⟨O.fa, O.se.below (by omega), O.ou, fun x e => by have := O.zf x e; omega, fun x e => by have := O.zo x e; omega⟩, ⟨hM, by unfold inb; simp; omega, hL.2, hL.1, hΓ, hse.out, hU.2, hU.1, hrs.out⟩⟩
end Go.Proofs.YtdikhdfpcipdbaaGreatDoor.br

/- Chapter 18 of the model: a turn of a right world. -/
namespace Go.Proofs.YtdikhdfpcipdbaaGreatDoor.wd
open Go.ChangeShapes Go.WideShapes Go.ChangeAt Go.RowKit
open Go.Proofs.YtdikhdfpcipdbaaGreatDoor.nums Go.Proofs.YtdikhdfpcipdbaaGreatDoor.mem
open Go.Proofs.YtdikhdfpcipdbaaGreatDoor.tab (Ret)
open Go.Proofs.YtdikhdfpcipdbaaGreatDoor.il (nth Ints)
open Go.Proofs.YtdikhdfpcipdbaaGreatDoor.br (B P OkB Arg OwnB str bv Seven)
set_option linter.unusedVariables false

theorem infoBd : (Tryz.prog.info? 90).map (·.size) = some 3 := by kernel_rfl
/-- A body is laid into a world's box. -/
theorem st_body {ops : Array Oper} {rest : List Oper} {o : Oper} {a : Act} {w : World} {Q : Exit → Act → World → Prop} (hgd : o.guard = none) (a1 a2 : Operand) (ho : o.op = .store 90 a1 a2) (hd : o.dst = none)
    (g : Nat) (h r s : Int) (x : V) (p : P) (hx : a.eval a1 = .pointer (some ⟨g, 13, none⟩)) (hy : a.eval a2 = bo.bd h r s) (H : Has w g 92 (cs23 x p))
    (k : ∀ w', w.grownBy w' (some g) → Has w' g 92 (cs23 ⟨x.br, h, r, s, x.bk, x.li, x.ly, x.wa, x.ar, x.sq, x.lo⟩ p) → wpList Tryz.prog ops Q rest a w') : wpList Tryz.prog ops Q (o :: rest) a w := by
  refine wpList_store_mid hgd _ a1 a2 ho g 13 (bo.cs3 h r s) hx hy (fun j hj => ⟨?_, H.frozen _⟩) (by rw [infoBd]; rfl) (by simp [Value.oneCell']) ?_
  · have hj' : j < 3 := hj
    rw [H.cell (13 + j)]
    rcases (show j = 0 ∨ j = 1 ∨ j = 2 by omega) with rfl | rfl | rfl <;> rfl
  · rw [hd]
    exact k _ (gr_set (gr_set (gr_set (gr_refl w (some g)) _ _) _ _) _ _) (put15 (put14 (put13 H _) _) _)
/-- What each operation ahead of the brain leaves. -/
def LeftA (z zo : Nat) (x : V) (p : P) : Nat → Value → World → Prop
  | 0, v, _ => v = .pointer (some ⟨z, 0, none⟩)
  | 1, v, _ => v = bv x.br p
  | 2, v, _ => v = wv x p
  | 3, v, _ => v = str (said x)
  | 4, v, w => ∃ b q, v = bv b q ∧ OwnB (zo + 1) w b q ∧ OkB b
  | 5, v, _ => v = .pointer (some ⟨zo, 0, none⟩)
  | _, _, _ => False
theorem LeftA.stab (z zo : Nat) (x : V) (p : P) (j : Nat) (v : Value) (w w' : World) (h : LeftA z zo x p j v w) (hg : w.grownBy w' none) : LeftA z zo x p j v w' := by
  match j, h with
  | 0, h => exact h
  | 1, h => exact h
  | 2, h => exact h
  | 3, h => exact h
  | 4, ⟨b, q, h1, h2, h3⟩ => exact ⟨b, q, h1, h2.kept hg, h3⟩
  | 5, h => exact h
/-- What each operation ahead of the body leaves. -/
def LeftB (z zo : Nat) (x y : V) (p : P) (g : Int) : Nat → Value → World → Prop
  | 0, v, _ => v = .pointer (some ⟨z, 13, none⟩)
  | 1, v, _ => v = bo.bd x.he x.ri x.sp
  | 2, v, _ => v = wv y p
  | 3, v, w => ∃ a cap, v = .slice a (realTo y.bk y.br.ou 6).length cap ∧ Ints w a (realTo y.bk y.br.ou 6)
  | 4, v, _ => v = .int .i64 g
  | 5, v, _ => v = bo.bd (bo.mvH x.he x.ri x.sp (realTo y.bk y.br.ou 6) g) (bo.mvR x.he x.ri x.sp (realTo y.bk y.br.ou 6) g) (bo.mvS x.sp (realTo y.bk y.br.ou 6))
  | 6, v, _ => v = .pointer (some ⟨zo, 13, none⟩)
  | _, _, _ => False
theorem LeftB.stab (z zo : Nat) (x y : V) (p : P) (g : Int) (j : Nat) (v : Value) (w w' : World) (h : LeftB z zo x y p g j v w) (hg : w.grownBy w' none) : LeftB z zo x y p g j v w' := by
  match j, h with
  | 0, h => exact h
  | 1, h => exact h
  | 2, h => exact h
  | 3, ⟨a, c, h1, h2⟩ => exact ⟨a, c, h1, h2.kept hg⟩
  | 4, h => exact h
  | 5, h => exact h
  | 6, h => exact h

set_option maxRecDepth 100000 in
set_option maxHeartbeats 4000000 in
theorem specTurn (x : V) (p : P) (g : Int) (w : World) (h : Arg w x.br p) (ho : OkW x) (hg1 : -1000 ≤ g) (hg2 : g ≤ 1000) : Calls Tryz.prog 123 #[wv x p, .int .i64 g] w (RetW w) := by
  have K := (Has.fresh w 92 (cs23 x p)).alloc (Obj.cells z23 92)
  have R := Has.fresh (w.alloc (Obj.cells (cs23 x p) 92)) 92 z23
  have G := gr_alloc (World.grownBy_alloc w (Obj.cells (cs23 x p) 92) none) (Obj.cells z23 92)
  simp only [World.size_alloc] at R
  have hsW : w.heap.size + 1 < ((w.alloc (Obj.cells (cs23 x p) 92)).alloc (Obj.cells z23 92)).heap.size := by simp
  have cS := fun W k => specSaid x p W k ho
  have cT := fun W k => br.specTicked x.br p (said x) W k ho.br (by have := (said_len x).2; omega)
  have HO := Lib.hid ho
  clear ho
  go_enter Tryz.func123, Tryz.ntmps123
  go_upto_region 1 with fail
  generalize (w.alloc (Obj.cells (cs23 x p) 92)).alloc (Obj.cells z23 92) = v0 at *
  go_upto_region 2 with (first | (refine ld_row rfl _ rfl w.heap.size x p rfl K ?_) | (refine st_row rfl _ _ rfl rfl v0.heap.size x p _ rfl rfl (Has.fresh v0 92 _) rfl ?_; intro v1 c1 K5))
  have G1 := gr_past (World.grownBy_alloc v0 (Obj.cells z23 92) none) c1 (Nat.le_refl _)
  replace G := gr_trans G G1
  replace K := K.grown G1 (by simp)
  replace R := R.grown G1 (by simp)
  have lz := K5.lt
  clear c1 G1
  generalize v0.heap.size = zo at *
  refine abs4 1 2 4 5 ?_ rfl rfl rfl rfl rfl rfl
  intro a0 hs0 hd0 g1 g2 g4 g5
  refine iv.region_inv (a0 := a0) 6 (fun i => i + 7) (LeftA w.heap.size zo x p) (by kernel_rfl) (by kernel_rfl) (by kernel_rfl) (by decide) (by kernel_rfl) (by kernel_rfl) (fun i j hi hj e => by simpa using e) (fun i hi => by rw [hs0]; exact (show ∀ i, i < 6 → i + 7 < 31 by decide) i hi) (LeftA.stab w.heap.size zo x p) ?_ ?_
  · intro i o a W hi ho2 hgW hsz2 hdf hold hdeps
    obtain ⟨⟨tl⟩, df⟩ := a
    have ed : df = [] := hdf.trans hd0
    subst ed
    have hlen : tl.length = 31 := hsz2.trans hs0
    clear hsz2 hdf
    refine litE31 tl hlen ?_
    clear hlen
    intro x0 x1 x2 x3 x4 x5 x6 x7 x8 x9 x10 x11 x12 x13 x14 x15 x16 x17 x18 x19 x20 x21 x22 x23 x24 x25 x26 x27 x28 x29 x30 et
    subst et
    have e : some x1 = _ := (hold 1 (fun j hj => by clear hold; revert hj j; decide)).trans g1
    injection e with e
    subst e
    have e : some x2 = _ := (hold 2 (fun j hj => by clear hold; revert hj j; decide)).trans g2
    injection e with e
    subst e
    have e : some x4 = _ := (hold 4 (fun j hj => by clear hold; revert hj j; decide)).trans g4
    injection e with e
    subst e
    have e : some x5 = _ := (hold 5 (fun j hj => by clear hold; revert hj j; decide)).trans g5
    injection e with e
    subst e
    clear hold hs0 hd0 g1 g2 g4 g5
    rcases (show i = 0 ∨ i = 1 ∨ i = 2 ∨ i = 3 ∨ i = 4 ∨ i = 5 by omega) with rfl | rfl | rfl | rfl | rfl | rfl
    all_goals simp at ho2
    all_goals subst ho2
    all_goals simp [Region.binds, LeftA] at hdeps
    · go_wp2_with fail
      exact ⟨gr_refl _ _, rfl⟩
    · subst hdeps
      obtain ⟨c0, c1, c2, c3, c4, c5, c6, c7, c8, c9, c10, c11, c12, c13, c14, c15, c16, c17, c18, c19, c20, c21, c22⟩ := cells (K.grown hgW (by simp))
      clear c13 c14 c15 c16 c17 c18 c19 c20 c21 c22
      go_wp2_with fail
      exact ⟨gr_refl _ _, rfl⟩
    · go_wp2_with (refine ld_row rfl _ rfl w.heap.size x p rfl (K.grown hgW (by simp)) ?_)
      exact ⟨gr_refl _ _, rfl⟩
    · first | subst hdeps | (obtain ⟨rfl, _⟩ := hdeps)
      go_wp2_with fail
      refine (cS _ (h.kept (gr_trans G hgW))).mono ?_
      rintro e wx ⟨rfl, r⟩
      go_wp2_with fail
      exact rfl
    · first | (obtain ⟨rfl, rfl⟩ := hdeps) | (obtain ⟨rfl, rfl, _⟩ := hdeps)
      go_wp2_with fail
      refine (cT _ (h.kept (gr_trans G hgW))).mono ?_
      rintro e wx ⟨b, q, rfl, r, O, ok⟩
      go_wp2_with fail
      exact ⟨b, q, rfl, O.below (by have := hgW.size; omega), ok⟩
    · go_wp2_with fail
      exact ⟨gr_refl _ _, rfl⟩
  · intro o W hgW hsz2 hdf hold hnew
    obtain ⟨⟨tl⟩, df⟩ := o
    have ed : df = [] := hdf.trans hd0
    subst ed
    have hlen : tl.length = 31 := hsz2.trans hs0
    clear hsz2 hdf
    refine litE31 tl hlen ?_
    clear hlen
    intro x0 x1 x2 x3 x4 x5 x6 x7 x8 x9 x10 x11 x12 x13 x14 x15 x16 x17 x18 x19 x20 x21 x22 x23 x24 x25 x26 x27 x28 x29 x30 et
    subst et
    have e : some x1 = _ := (hold 1 (fun j hj => by clear hold; revert hj j; decide)).trans g1
    injection e with e
    subst e
    have e : some x2 = _ := (hold 2 (fun j hj => by clear hold; revert hj j; decide)).trans g2
    injection e with e
    subst e
    have e : some x4 = _ := (hold 4 (fun j hj => by clear hold; revert hj j; decide)).trans g4
    injection e with e
    subst e
    have e : some x5 = _ := (hold 5 (fun j hj => by clear hold; revert hj j; decide)).trans g5
    injection e with e
    subst e
    obtain ⟨v, e, b, q, rfl, O, ok⟩ := hnew 4 (by omega)
    have e : some x11 = _ := e
    injection e with e
    subst e
    obtain ⟨v, e, rfl⟩ := hnew 5 (by omega)
    have e : some x12 = _ := e
    injection e with e
    subst e
    clear hnew hold hs0 hd0 g1 g2 g4 g5
    simp only [List.drop_succ_cons, List.drop_zero]
    replace G := gr_trans G hgW
    replace K := K.grown hgW (by simp)
    replace R := R.grown hgW (by simp)
    replace K5 := K5.grown hgW (by simp)
    clear lz hgW cS cT
    go_upto_region 3 with (refine st_brain rfl _ _ rfl rfl zo b q x p rfl rfl K5 ?_; intro v2 c2 K52)
    replace G := gr_past G c2 (by omega)
    replace K := K.grown c2 (by simp; omega)
    replace R := R.grown c2 (by simp; omega)
    replace O := O.low c2 (by omega)
    clear c2 K5
    have s7 : Seven b.ou := ⟨ok.ou7, ok.ou⟩
    have r7 := seven_real x.bk s7 6
    have cR := fun W k => specReal ⟨b, x.he, x.ri, x.sp, x.bk, x.li, x.ly, x.wa, x.ar, x.sq, x.lo⟩ q W k s7 HO.out.bk
    have cM := fun W a cap k => bo.specMoved x.he x.ri x.sp a cap (realTo x.bk b.ou 6) g W k (body_of HO.out) r7 (by omega) (by omega)
    have bM := bo.mv_in (h := x.he) (r := x.ri) (s := x.sp) (o := realTo x.bk b.ou 6) g HO.out.sp (bl.ok_bd (bl.all_at r7.2 (show 6 < (realTo x.bk b.ou 6).length by rw [r7.1]; omega)))
    refine abs4 1 2 4 5 ?_ rfl rfl rfl rfl rfl rfl
    intro a0 hs0 hd0 g1 g2 g4 g5
    refine iv.region_inv (a0 := a0) 7 (fun i => i + 13) (LeftB w.heap.size zo x ⟨b, x.he, x.ri, x.sp, x.bk, x.li, x.ly, x.wa, x.ar, x.sq, x.lo⟩ q g) (by kernel_rfl) (by kernel_rfl) (by kernel_rfl) (by decide) (by kernel_rfl) (by kernel_rfl) (fun i j hi hj e => by simpa using e) (fun i hi => by rw [hs0]; exact (show ∀ i, i < 7 → i + 13 < 31 by decide) i hi) (LeftB.stab w.heap.size zo x ⟨b, x.he, x.ri, x.sp, x.bk, x.li, x.ly, x.wa, x.ar, x.sq, x.lo⟩ q g) ?_ ?_
    · intro i o a W hi ho2 hgW hsz2 hdf hold hdeps
      obtain ⟨⟨tl⟩, df⟩ := a
      have ed : df = [] := hdf.trans hd0
      subst ed
      have hlen : tl.length = 31 := hsz2.trans hs0
      clear hsz2 hdf
      refine litE31 tl hlen ?_
      clear hlen
      intro x0 x1 x2 x3 x4 x5 x6 x7 x8 x9 x10 x11 x12 x13 x14 x15 x16 x17 x18 x19 x20 x21 x22 x23 x24 x25 x26 x27 x28 x29 x30 et
      subst et
      have e : some x1 = _ := (hold 1 (fun j hj => by clear hold; revert hj j; decide)).trans g1
      injection e with e
      subst e
      have e : some x2 = _ := (hold 2 (fun j hj => by clear hold; revert hj j; decide)).trans g2
      injection e with e
      subst e
      have e : some x4 = _ := (hold 4 (fun j hj => by clear hold; revert hj j; decide)).trans g4
      injection e with e
      subst e
      have e : some x5 = _ := (hold 5 (fun j hj => by clear hold; revert hj j; decide)).trans g5
      injection e with e
      subst e
      clear hold hs0 hd0 g1 g2 g4 g5
      rcases (show i = 0 ∨ i = 1 ∨ i = 2 ∨ i = 3 ∨ i = 4 ∨ i = 5 ∨ i = 6 by omega) with rfl | rfl | rfl | rfl | rfl | rfl | rfl
      all_goals simp at ho2
      all_goals subst ho2
      all_goals simp [Region.binds, LeftB] at hdeps
      · go_wp2_with fail
        exact ⟨gr_refl _ _, rfl⟩
      · subst hdeps
        obtain ⟨c0, c1, c2, c3, c4, c5, c6, c7, c8, c9, c10, c11, c12, c13, c14, c15, c16, c17, c18, c19, c20, c21, c22⟩ := cells (K.grown hgW (by simp))
        clear c0 c1 c2 c3 c4 c5 c6 c7 c8 c9 c10 c11 c12 c16 c17 c18 c19 c20 c21 c22
        go_wp2_with fail
        exact ⟨gr_refl _ _, rfl⟩
      · go_wp2_with (refine ld_row rfl _ rfl zo ⟨b, x.he, x.ri, x.sp, x.bk, x.li, x.ly, x.wa, x.ar, x.sq, x.lo⟩ q rfl (K52.grown hgW (by simp)) ?_)
        exact ⟨gr_refl _ _, rfl⟩
      · first | subst hdeps | (obtain ⟨rfl, _⟩ := hdeps)
        go_wp2_with fail
        refine (cR _ (O.arg.kept hgW)).mono ?_
        rintro e wx ⟨a, cap, rfl, r, oa, _⟩
        go_wp2_with fail
        exact ⟨a, cap, rfl, oa.ints⟩
      · go_wp2_with fail
        exact ⟨gr_refl _ _, rfl⟩
      · first | (obtain ⟨rfl, ⟨a, ⟨cap, rfl⟩, ia⟩, rfl⟩ := hdeps) | (obtain ⟨rfl, ⟨a, ⟨cap, rfl⟩, ia⟩, rfl, _⟩ := hdeps)
        go_wp2_with fail
        refine (cM _ a cap ia).mono ?_
        rintro e wx ⟨rfl, r⟩
        go_wp2_with fail
        exact rfl
      · go_wp2_with fail
        exact ⟨gr_refl _ _, rfl⟩
    · intro o W hgW hsz2 hdf hold hnew
      obtain ⟨⟨tl⟩, df⟩ := o
      have ed : df = [] := hdf.trans hd0
      subst ed
      have hlen : tl.length = 31 := hsz2.trans hs0
      clear hsz2 hdf
      refine litE31 tl hlen ?_
      clear hlen
      intro x0 x1 x2 x3 x4 x5 x6 x7 x8 x9 x10 x11 x12 x13 x14 x15 x16 x17 x18 x19 x20 x21 x22 x23 x24 x25 x26 x27 x28 x29 x30 et
      subst et
      have e : some x1 = _ := (hold 1 (fun j hj => by clear hold; revert hj j; decide)).trans g1
      injection e with e
      subst e
      have e : some x2 = _ := (hold 2 (fun j hj => by clear hold; revert hj j; decide)).trans g2
      injection e with e
      subst e
      have e : some x4 = _ := (hold 4 (fun j hj => by clear hold; revert hj j; decide)).trans g4
      injection e with e
      subst e
      have e : some x5 = _ := (hold 5 (fun j hj => by clear hold; revert hj j; decide)).trans g5
      injection e with e
      subst e
      obtain ⟨v, e, rfl⟩ := hnew 5 (by omega)
      have e : some x18 = _ := e
      injection e with e
      subst e
      obtain ⟨v, e, rfl⟩ := hnew 6 (by omega)
      have e : some x19 = _ := e
      injection e with e
      subst e
      clear hnew hold hs0 hd0 g1 g2 g4 g5
      simp only [List.drop_succ_cons, List.drop_zero]
      replace G := gr_trans G hgW
      replace K := K.grown hgW (by simp)
      replace R := R.grown hgW (by simp)
      replace K52 := K52.grown hgW (by simp)
      replace O := O.kept hgW
      clear hgW cR cM
      generalize bo.mvH x.he x.ri x.sp (realTo x.bk b.ou 6) g = H1 at *
      generalize bo.mvR x.he x.ri x.sp (realTo x.bk b.ou 6) g = R1 at *
      generalize bo.mvS x.sp (realTo x.bk b.ou 6) = S1 at *
      go_upto_region 4 with (refine st_body rfl _ _ rfl rfl zo H1 R1 S1 ⟨b, x.he, x.ri, x.sp, x.bk, x.li, x.ly, x.wa, x.ar, x.sq, x.lo⟩ q rfl rfl K52 ?_; intro v3 c3 K53)
      replace G := gr_past G c3 (by omega)
      replace K := K.grown c3 (by simp; omega)
      replace R := R.grown c3 (by simp; omega)
      replace O := O.low c3 (by omega)
      clear c3 K52
      have k21 : v3.cell? ⟨w.heap.size, 21, none⟩ = some (.int .i64 x.sq) := K.cell 21
      have k22 : v3.cell? ⟨w.heap.size, 22, none⟩ = some (.int .i64 x.lo) := K.cell 22
      have m21 : v3.cell? ⟨zo, 21, none⟩ = some (.int .i64 x.sq) := K53.cell 21
      have f21 := K53.frozen 21
      have hsq := HO.out.sq
      have hlo := HO.out.lo
      go_upto_region 5 with fail
      clear k21 k22 m21 f21
      replace O := O.low (gr_set (gr_refl v3 (some zo)) 21 (.int .i64 ((x.sq + 1) % 100))) (by omega)
      replace G := gr_new G (show w.heap.size ≤ zo by omega) 21 (.int .i64 ((x.sq + 1) % 100))
      replace K := K.set_other (show w.heap.size ≠ zo by omega) 21 (.int .i64 ((x.sq + 1) % 100))
      replace R := R.set_other (show w.heap.size + 1 ≠ zo by omega) 21 (.int .i64 ((x.sq + 1) % 100))
      replace K53 := put21 K53 (.int .i64 ((x.sq + 1) % 100))
      generalize v3.setCell ⟨zo, 21, none⟩ (.int .i64 ((x.sq + 1) % 100)) = v4 at *
      have k22 : v4.cell? ⟨w.heap.size, 22, none⟩ = some (.int .i64 x.lo) := K.cell 22
      have m22 : v4.cell? ⟨zo, 22, none⟩ = some (.int .i64 x.lo) := K53.cell 22
      have f22 := K53.frozen 22
      go_wp2_with fail
      refine (fix.specMax 0 (x.lo - 1) _).mono ?_
      rintro e v5 ⟨rfl, rfl⟩
      go_upto_region 6 with fail
      clear k22 m22 f22
      replace O := O.low (gr_set (gr_refl v4 (some zo)) 22 (.int .i64 (max 0 (x.lo - 1)))) (by omega)
      replace G := gr_new G (show w.heap.size ≤ zo by omega) 22 (.int .i64 (max 0 (x.lo - 1)))
      replace R := R.set_other (show w.heap.size + 1 ≠ zo by omega) 22 (.int .i64 (max 0 (x.lo - 1)))
      have K6 : Has (v4.setCell ⟨zo, 22, none⟩ (.int .i64 (max 0 (x.lo - 1)))) zo 92 (cs23 ⟨b, H1, R1, S1, x.bk, x.li, x.ly, x.wa, x.ar, (x.sq + 1) % 100, max 0 (x.lo - 1)⟩ q) := put22 K53 (.int .i64 (max 0 (x.lo - 1)))
      clear K53 K
      generalize v4.setCell ⟨zo, 22, none⟩ (.int .i64 (max 0 (x.lo - 1))) = v6 at *
      go_wp2_with (first | (refine ld_row rfl _ rfl zo ⟨b, H1, R1, S1, x.bk, x.li, x.ly, x.wa, x.ar, (x.sq + 1) % 100, max 0 (x.lo - 1)⟩ q rfl K6 ?_) | (refine st_row rfl _ _ rfl rfl (w.heap.size + 1) ⟨b, H1, R1, S1, x.bk, x.li, x.ly, x.wa, x.ar, (x.sq + 1) % 100, max 0 (x.lo - 1)⟩ q z23 rfl rfl R rfl ?_; intro v7 c7 R7))
      replace O := O.low c7 (by omega)
      replace G := gr_past G c7 (show w.heap.size ≤ w.heap.size + 1 by omega)
      obtain ⟨bH, bR, bS⟩ := bo.ok_iff.1 bM
      have hq1 : 0 ≤ (x.sq + 1) % 100 ∧ (x.sq + 1) % 100 ≤ 99 := by omega
      have hq2 : 0 ≤ max 0 (x.lo - 1) ∧ max 0 (x.lo - 1) ≤ 100 := by omega
      refine bodyPost_ret (v := wv ⟨b, H1, R1, S1, x.bk, x.li, x.ly, x.wa, x.ar, (x.sq + 1) % 100, max 0 (x.lo - 1)⟩ q) ?_ rfl ⟨⟨b, H1, R1, S1, x.bk, x.li, x.ly, x.wa, x.ar, (x.sq + 1) % 100, max 0 (x.lo - 1)⟩, q, rfl, G, O.below (by omega), ⟨ok, bH, bR, bS, HO.out.bk, HO.out.li, HO.out.ly, HO.out.wa, hq1, hq2⟩⟩
      exact rs_row rfl _ _ (w.heap.size + 1) ⟨b, H1, R1, S1, x.bk, x.li, x.ly, x.wa, x.ar, (x.sq + 1) % 100, max 0 (x.lo - 1)⟩ q rfl R7
end Go.Proofs.YtdikhdfpcipdbaaGreatDoor.wd

/- Chapter 18 of the model: Turned, TurnedMany of a right world. -/
namespace Go.Proofs.YtdikhdfpcipdbaaGreatDoor.wd
open Go.ChangeShapes Go.WideShapes Go.ChangeAt Go.RowKit
open Go.Proofs.YtdikhdfpcipdbaaGreatDoor.nums Go.Proofs.YtdikhdfpcipdbaaGreatDoor.mem
open Go.Proofs.YtdikhdfpcipdbaaGreatDoor.tab (Ret)
open Go.Proofs.YtdikhdfpcipdbaaGreatDoor.br (B P OkB Arg OwnB str bv Seven)
set_option linter.unusedVariables false

set_option maxRecDepth 100000 in
set_option maxHeartbeats 2000000 in
theorem specTurned (x : V) (p : P) (g : Int) (w : World) (h : Arg w x.br p) (ho : OkW x) (hg1 : -1000 ≤ g) (hg2 : g ≤ 1000) : Calls Tryz.prog 113 #[wv x p, .int .i64 g] w (RetW w) := by
  have K := (Has.fresh w 92 (cs23 x p)).alloc (Obj.cells z23 92)
  have R := Has.fresh (w.alloc (Obj.cells (cs23 x p) 92)) 92 z23
  have G := gr_alloc (World.grownBy_alloc w (Obj.cells (cs23 x p) 92) none) (Obj.cells z23 92)
  simp only [World.size_alloc] at R
  have hsW : w.heap.size + 1 < ((w.alloc (Obj.cells (cs23 x p) 92)).alloc (Obj.cells z23 92)).heap.size := by simp
  have cO := fun W k => specWorldOk x p W k ho
  have cT := fun W k => specTurn x p g W k ho hg1 hg2
  clear ho
  go_enter Tryz.func113, Tryz.ntmps113
  go_upto_region 1 with fail
  generalize (w.alloc (Obj.cells (cs23 x p) 92)).alloc (Obj.cells z23 92) = v0 at *
  go_wp2_with (refine ld_row rfl _ rfl w.heap.size x p rfl K ?_)
  refine (cO _ (h.kept G)).mono ?_
  rintro e v1 ⟨rfl, r⟩
  replace G := gr_trans G r
  replace K := K.grown r (by simp)
  replace R := R.grown r (by simp)
  replace hsW := Nat.lt_of_lt_of_le hsW r.size
  clear r cO
  go_wp2_with (refine ld_row rfl _ rfl w.heap.size x p rfl K ?_)
  refine (cT _ (h.kept G)).mono ?_
  rintro e v2 ⟨y, q, rfl, r, O, ok⟩
  replace G := gr_trans G r
  replace R := R.grown r (by simp)
  clear r cT
  go_wp2_with (refine st_row rfl _ _ rfl rfl (w.heap.size + 1) y q z23 rfl rfl R rfl ?_; intro v3 c3 R3)
  replace O := O.low c3 hsW
  replace G := gr_past G c3 (show w.heap.size ≤ w.heap.size + 1 by omega)
  refine bodyPost_ret (v := wv y q) ?_ rfl ⟨y, q, rfl, G, O.below (by omega), ok⟩
  exact rs_row rfl _ _ (w.heap.size + 1) y q rfl R3

/-- A right world lies in this box, its lists in memory of its own. -/
def Lies (z zo : Nat) (wr : World) : Prop := ∃ y q, Has wr zo 92 (cs23 y q) ∧ OwnB z wr y.br q ∧ OkW y
set_option maxRecDepth 100000 in
set_option maxHeartbeats 2000000 in
theorem specTurnedMany (x : V) (p : P) (n : Nat) (g : Int) (w : World) (h : Arg w x.br p) (ho : OkW x) (hn : n ≤ 500) (hg1 : -1000 ≤ g) (hg2 : g ≤ 1000) : Calls Tryz.prog 112 #[wv x p, .int .i64 n, .int .i64 g] w (RetW w) := by
  have K := (Has.fresh w 92 (cs23 x p)).alloc (Obj.cells z23 92)
  have R := Has.fresh (w.alloc (Obj.cells (cs23 x p) 92)) 92 z23
  have G := gr_alloc (World.grownBy_alloc w (Obj.cells (cs23 x p) 92) none) (Obj.cells z23 92)
  simp only [World.size_alloc] at R
  have hsW : w.heap.size + 1 < ((w.alloc (Obj.cells (cs23 x p) 92)).alloc (Obj.cells z23 92)).heap.size := by simp
  have cO := fun W k => specWorldOk x p W k ho
  have cC := fun W k => specCopyW x p W k ho
  have q1 := fun W => fix.specIn n 0 500 W
  rw [inb_of (show (0 : Int) ≤ (n : Int) ∧ (n : Int) ≤ 500 by omega)] at q1
  have HO := Lib.hid ho
  clear ho
  go_enter Tryz.func112, Tryz.ntmps112
  go_upto_region 1 with fail
  generalize (w.alloc (Obj.cells (cs23 x p) 92)).alloc (Obj.cells z23 92) = v0 at *
  go_wp2_with (refine ld_row rfl _ rfl w.heap.size x p rfl K ?_)
  refine (cO _ (h.kept G)).mono ?_
  rintro e v1 ⟨rfl, r⟩
  replace G := gr_trans G r
  replace K := K.grown r (by simp)
  replace R := R.grown r (by simp)
  replace hsW := Nat.lt_of_lt_of_le hsW r.size
  clear r cO
  go_wp2_with fail
  refine (q1 _).mono ?_
  rintro e v1' ⟨rfl, rfl⟩
  clear q1
  go_wp2_with (refine ld_row rfl _ rfl w.heap.size x p rfl K ?_)
  refine (cC _ (h.kept G)).mono ?_
  rintro e v2 ⟨q, rfl, r, O⟩
  replace G := gr_trans G r
  replace R := R.grown r (by simp)
  have hs2 := Nat.lt_of_lt_of_le hsW r.size
  have hv12 := r.size
  clear r cC K
  go_wp2_with (refine st_row rfl _ _ rfl rfl v2.heap.size x q _ rfl rfl (Has.fresh v2 92 _) rfl ?_; intro v3 c3 K5)
  have ga := World.grownBy_alloc v2 (Obj.cells z23 92) none
  replace O := (O.kept ga).far (Has.fresh v2 92 z23) (by decide) (by decide) (by decide) c3
  have G1 := gr_past ga c3 (Nat.le_refl _)
  replace G := gr_trans G G1
  replace R := R.grown G1 (by simp)
  have lz := K5.lt
  clear c3 G1 ga
  generalize v2.heap.size = zo at *
  have hL : Lies v1.heap.size zo v3 := ⟨x, q, K5, O, HO.out⟩
  clear K5 O
  go_loopw [1] (fun i wr => ∃ k : Nat, k ≤ n ∧ i = .int .i64 k ∧ Has wr (w.heap.size + 1) 92 z23 ∧ w.grownBy wr none ∧ Lies v1.heap.size zo wr) (fun i _ => (intOf i).toNat)
  case atStart => exact ⟨n, Nat.le_refl _, rfl, R, G, hL⟩
  case round =>
    clear R G hL lz
    obtain ⟨k, hk, rfl, R, G, y, q2, K5, O, ok⟩ := hrel
    by_cases hlt : 0 < k
    · have cT := fun W k => specTurn y q2 g W k ok hg1 hg2
      go_wp2_with (refine ld_row rfl _ rfl zo y q2 rfl K5 ?_)
      refine (cT _ O.arg).mono ?_
      rintro e v5 ⟨y3, q3, rfl, r, O3, ok3⟩
      have hsz := r.size
      have l5 := K5.lt
      go_wp2_with (refine st_row rfl _ _ rfl rfl zo y3 q3 _ rfl rfl (K5.grown r (by simp)) rfl ?_; intro v6 c6 K6)
      have O6 := (O3.below (show v1.heap.size ≤ wr.heap.size by omega)).far (K5.grown r (by simp)) (by decide) (by decide) (by decide) c6
      have hG : w.grownBy v6 none := gr_past (gr_trans G r) c6 (by omega)
      have hR : Has v6 (w.heap.size + 1) 92 z23 := (R.grown r (by simp)).grown c6 (by simp; omega)
      have hL : Lies v1.heap.size zo v6 := ⟨y3, q3, K6, O6, ok3⟩
      clear O3 O6 K6 cT
      go_roundw
      case rel => exact ⟨k - 1, by omega, by go_num, hR, hG, hL⟩
      case measure => simp [intOf]; omega
    · obtain rfl : k = 0 := by omega
      go_wp2_with (first | (refine ld_row rfl _ rfl zo y q2 rfl K5 ?_) | (refine st_row rfl _ _ rfl rfl (w.heap.size + 1) y q2 z23 rfl rfl R rfl ?_; intro v7 c7 R7))
      replace O := O.low c7 hsW
      replace G := gr_past G c7 (show w.heap.size ≤ w.heap.size + 1 by omega)
      refine bodyPost_ret (v := wv y q2) ?_ rfl ⟨y, q2, rfl, G, O.below (by omega), ok⟩
      exact rs_row rfl _ _ (w.heap.size + 1) y q2 rfl R7
end Go.Proofs.YtdikhdfpcipdbaaGreatDoor.wd

/- Chapter 19 of the model: what happens to a right world. -/
namespace Go.Proofs.YtdikhdfpcipdbaaGreatDoor.wd
open Go.ChangeShapes Go.WideShapes Go.ChangeAt Go.RowKit
open Go.Proofs.YtdikhdfpcipdbaaGreatDoor.nums Go.Proofs.YtdikhdfpcipdbaaGreatDoor.mem
open Go.Proofs.YtdikhdfpcipdbaaGreatDoor.tab (Ret quiet_w)
open Go.Proofs.YtdikhdfpcipdbaaGreatDoor.il (nth)
open Go.Proofs.YtdikhdfpcipdbaaGreatDoor.br (B P OkB Arg OwnB str bv Seven)
set_option linter.unusedVariables false

def lows : List Int := [0, 0, 0, -1, 0, 0, -3, -1000000]
def highs : List Int := [1, 2, 5, 2, 100, 200, 3, 1000000]
abbrev lowA : Array Value := #[.int .i64 0, .int .i64 0, .int .i64 0, .int .i64 (-1), .int .i64 0, .int .i64 0, .int .i64 (-3), .int .i64 (-1000000)]
abbrev highA : Array Value := #[.int .i64 1, .int .i64 2, .int .i64 5, .int .i64 2, .int .i64 100, .int .i64 200, .int .i64 3, .int .i64 1000000]
theorem low_at {j : Nat} (h : j < 8) : lowA[j]? = some (.int .i64 (nth lows j)) := by
  rcases (show j = 0 ∨ j = 1 ∨ j = 2 ∨ j = 3 ∨ j = 4 ∨ j = 5 ∨ j = 6 ∨ j = 7 by omega) with rfl | rfl | rfl | rfl | rfl | rfl | rfl | rfl <;> rfl
theorem high_at {j : Nat} (h : j < 8) : highA[j]? = some (.int .i64 (nth highs j)) := by
  rcases (show j = 0 ∨ j = 1 ∨ j = 2 ∨ j = 3 ∨ j = 4 ∨ j = 5 ∨ j = 6 ∨ j = 7 by omega) with rfl | rfl | rfl | rfl | rfl | rfl | rfl | rfl <;> rfl

set_option maxRecDepth 100000 in
set_option maxHeartbeats 2000000 in
theorem specRange (j : Nat) (w : World) (hj : j < 8) : Calls Tryz.prog 111 #[.int .i64 ((j : Int) + 1)] w (Ret (.tuple #[.int .i64 (nth lows j), .int .i64 (nth highs j)]) w) := by
  have D := (Has.fresh w 2 lowA).alloc (Obj.cells highA 2)
  have E := Has.fresh (w.alloc (Obj.cells lowA 2)) 2 highA
  have G := gr_alloc (World.grownBy_alloc w (Obj.cells lowA 2) none) (Obj.cells highA 2)
  simp only [World.size_alloc] at E
  have cd := (D.cell j).trans (low_at hj)
  have ce := (E.cell j).trans (high_at hj)
  go_enter Tryz.func111, Tryz.ntmps111
  go_upto_region 3 with fail
  generalize nth lows j = lo at *
  generalize nth highs j = hi at *
  generalize (w.alloc (Obj.cells lowA 2)).alloc (Obj.cells highA 2) = v0 at *
  go_quiet (fail)
  go_wp2_with fail
  exact bodyPost_ret (v := .tuple #[.int .i64 lo, .int .i64 hi]) (by simp [results, Tryz.results111, go_sem]) rfl ⟨rfl, gr_drewN G nq⟩
end Go.Proofs.YtdikhdfpcipdbaaGreatDoor.wd

