/- Brains copied by the model, and its new brain. -/
import Derived.Test.YtdikhdfpcipdbaaGreatDoorBrOk
import Derived.Test.YtdikhdfpcipdbaaGreatDoorSeCopS
import Derived.Deep.AppendLies
namespace Go.Proofs.YtdikhdfpcipdbaaGreatDoor.br
open Go.ChangeShapes Go.WideShapes Go.ChangeAt Go.RowKit
open Go.Proofs.YtdikhdfpcipdbaaGreatDoor.nums Go.Proofs.YtdikhdfpcipdbaaGreatDoor.mem
open Go.Proofs.YtdikhdfpcipdbaaGreatDoor.tab (Ret add_off)
open Go.Proofs.YtdikhdfpcipdbaaGreatDoor.fan (F okF zF fN fO fT rowF rowF_at)
open Go.Proofs.YtdikhdfpcipdbaaGreatDoor.gt (G)
open Go.Proofs.YtdikhdfpcipdbaaGreatDoor.il (nth Ints Own)
set_option linter.unusedVariables false

theorem rowF_one : ∀ (l : List F), ∀ u ∈ rowF l, u.oneCell' = true := by
  intro l
  induction l with
  | nil => intro u h; cases h
  | cons x l ih =>
    intro u h
    simp only [rowF, List.mem_cons] at h
    rcases h with rfl | rfl | rfl | h
    · rfl
    · rfl
    · rfl
    · exact ih u h
theorem rowF_len : ∀ (l : List F), (rowF l).length = l.length * 3 := by
  intro l
  induction l with
  | nil => rfl
  | cons x l ih => simp only [rowF, List.length_cons, ih]; omega
theorem news_of_argF {w : World} {x : Addr} {l : List F} (h : fan.Arg w (some x) l) : ∀ j u, (rowF l)[j]? = some u → w.cell? (x.add j) = some u := by
  intro j u hu
  have hj : j < l.length * 3 := by rw [← rowF_len]; exact (List.getElem?_eq_some_iff.1 hu).1
  obtain ⟨k, r, hr, rfl⟩ : ∃ k r, r < 3 ∧ j = k * 3 + r := ⟨j / 3, j % 3, by omega, by omega⟩
  have hk : k < l.length := by omega
  obtain ⟨y, e, _, c0, c1, c2⟩ := h k hk
  injection e with e
  subst e
  obtain ⟨r0, r1, r2⟩ := rowF_at l k hk
  rcases (show r = 0 ∨ r = 1 ∨ r = 2 by omega) with rfl | rfl | rfl
  · rw [Nat.add_zero] at hu ⊢; rw [r0] at hu; injection hu with hu; subst hu; exact c0
  · rw [r1] at hu; injection hu with hu; subst hu; rw [show k * 3 + 1 = k * 3 + (0 + 1) by omega, add_off]; exact c1
  · rw [r2] at hu; injection hu with hu; subst hu; rw [show k * 3 + 2 = k * 3 + (1 + 1) by omega, add_off]; exact c2
theorem own_of_rowF {w : World} {base cap g : Nat} {l : List F} (h : w.ownsRow base 189 3 (.slice (some ⟨g, 0, none⟩) l.length cap) l.length (rowF l)) : fan.OwnF w (some ⟨g, 0, none⟩) l := by
  rcases h.2 with ⟨h0, _⟩ | ⟨g', cap', cur, hv, _, hc, _⟩
  · cases h0
  · injection hv with hv1 hv2 hv3
    injection hv1 with hv1
    injection hv1 with hv1 _ _
    subst hv1
    refine Or.inr ⟨g, cur, rfl, hc, fun k hk => ?_⟩
    obtain ⟨x, e, _, c0, c1, c2⟩ := fan.arg_of_row h k hk
    injection e with e
    subst e
    rw [rd.add0] at c0 c1 c2
    exact ⟨(Has.cell hc _).symm.trans c0, (Has.cell hc _).symm.trans c1, (Has.cell hc _).symm.trans c2⟩
/-- A list laid behind an empty one in a new block. -/
theorem app_copyF {ops : Array Oper} {rest : List Oper} {o : Oper} {a : Act} {Q : Exit → Act → World → Prop} (hgd : o.guard = none) (s x : Operand)
    (ho : o.op = .call { callee := .builtin .append, args := #[s, x], argTypes := #[84, 84] }) (w0 : World) (g : Nat) (hg : w0.heap.size = g) (hs : a.eval s = .slice (some ⟨g, 0, none⟩) 0 0)
    (b : Option Addr) (cap : Nat) (l : List F) (hx : a.eval x = .slice b l.length cap) (h : fan.Arg w0 b l) (h0 : 0 < l.length) (hl : l.length ≤ 1048576)
    (H : ∀ g' cap' w', w0.grownBy w' none → fan.OwnF w' (some ⟨g', 0, none⟩) l → w0.heap.size ≤ g' → g' < w'.heap.size → wpList Tryz.prog ops Q rest (a.put o.dst (.slice (some ⟨g', 0, none⟩) l.length cap')) w') :
    wpList Tryz.prog ops Q (o :: rest) a (w0.alloc (Obj.cells #[] 189)) := by
  subst hg
  obtain ⟨i0, hi, hz0, hz1, hz2⟩ := info_parts fan.infoFan
  obtain ⟨ad, e, _⟩ := h 0 h0
  subst e
  have g0 : w0.grownBy (w0.alloc (Obj.cells #[] 189)) none := World.grownBy_alloc _ _ _
  have o0 := World.ownsRow_made (base := w0.heap.size) (e := 189) (size := 3) w0 #[] 0 (Nat.le_refl _) (Nat.zero_le _) rfl
  refine wpList_append_lies _ hgd s x _ ho w0.heap.size 189 i0 _ 3 24 Tryz.underlying84 hi hz0 hz1 hz2 rfl (by omega) _ 0 [] hs o0 ad l.length cap (rowF l) hx (rowF_len l) (news_of_argF (h.kept g0)) (rowF_one l) h0 (by unfold maxLen; omega) (by omega) (by simp) (w0.heap.size + 1) (by simp) ?_
  intro gg cap1 w1 hown hgrow hat hlt
  simp only [Nat.zero_add, List.nil_append] at hown ⊢
  exact H gg cap1 w1 (gr_past g0 hgrow (Nat.le_refl _)) (own_of_rowF hown) (by
    rcases hat with hat | hat
    · simp [Value.ownBlock] at hat; omega
    · omega) hlt

theorem OwnB.below {z c : Nat} {w : World} {b : B} {p : P} (h : OwnB z w b p) (hc : c ≤ z) : OwnB c w b p := ⟨h.fa, h.se.below hc, h.ou, fun x e => Nat.le_trans hc (h.zf x e), fun x e => Nat.le_trans hc (h.zo x e)⟩
theorem _root_.Go.Proofs.YtdikhdfpcipdbaaGreatDoor.se.OwnS.box1b {z : Nat} {w : World} {c : se.S} {p : se.P} (O : se.OwnS z w c p) {g : Nat} {t : TypeId} {cs : Array Value} (k : Has w g t cs) (h1 : t ≠ 42) (h2 : t ≠ 2) (i : Nat) (u : Value) : se.OwnS z (w.setCell ⟨g, i, none⟩ u) c p := O.set g i u (O.nbox k h1 h2)

set_option maxRecDepth 100000 in
set_option maxHeartbeats 4000000 in
theorem specCopyB (b : B) (p : P) (w : World) (h : Arg w b p) (ho : OkB b) : Calls Tryz.prog 122 #[bv b p] w (RetO b w) := by
  have K : Has ((w.alloc (Obj.cells (cs13 b p) 88)).alloc (Obj.cells z13 88)) w.heap.size 88 (cs13 b p) := (Has.fresh w _ _).alloc _
  have R := Has.fresh (w.alloc (Obj.cells (cs13 b p) 88)) 88 z13
  have G := gr_alloc (World.grownBy_alloc w (Obj.cells (cs13 b p) 88) none) (Obj.cells z13 88)
  simp only [World.size_alloc] at R
  have nz' : w.heap.size + 1 ≠ w.heap.size := by omega
  have p1 : 0 < b.fa.length := by rw [ho.fa6]; omega
  have n1 : b.fa.length ≤ 1048576 := by rw [ho.fa6]; omega
  have z7 : b.ou ≠ [] := fun e => by have := ho.ou7; rw [e] at this; simp at this
  have n7 : b.ou.length ≤ 100 := by rw [ho.ou7]; omega
  have cS := fun W k => se.specCopyS b.se p.se W k ho.se
  clear ho
  go_enter Tryz.func122, Tryz.ntmps122
  go_upto_region 1 with fail
  have hsW : w.heap.size + 1 < ((w.alloc (Obj.cells (cs13 b p) 88)).alloc (Obj.cells z13 88)).heap.size := by simp
  generalize (w.alloc (Obj.cells (cs13 b p) 88)).alloc (Obj.cells z13 88) = v0 at *
  obtain ⟨⟨⟨x0, x1, x2⟩, x3, x4⟩, ⟨⟨x5, x6, x7⟩, x8, x9, x10⟩, x11, x12⟩ := thirteen (K.alloc (Obj.cells #[] 189))
  go_upto_region 2 with (at_builtin; refine app_copyF rfl _ _ rfl v0 _ rfl rfl p.fa p.fc b.fa rfl (h.fa.kept G) p1 n1 ?_; intro g1 k1 u1 r1 o1 b1 l1; clear x0 x1 x2 x3 x4 x5 x6 x7 x8 x9 x10 x11 x12; replace K := K.grown r1 (by simp); obtain ⟨⟨⟨x0, x1, x2⟩, x3, x4⟩, ⟨⟨x5, x6, x7⟩, x8, x9, x10⟩, x11, x12⟩ := thirteen K; obtain ⟨⟨⟨f0, f1, f2⟩, f3, f4⟩, ⟨⟨f5, f6, f7⟩, f8, f9, f10⟩, f11, f12⟩ := free13 K)
  have t1 := gr_set (gr_refl u1 (some w.heap.size)) 2 (.slice (some ⟨g1, 0, none⟩) b.fa.length k1)
  replace G := gr_new (gr_trans G r1) (Nat.le_refl w.heap.size) 2 (.slice (some ⟨g1, 0, none⟩) b.fa.length k1)
  replace K := put2 K (.slice (some ⟨g1, 0, none⟩) b.fa.length k1)
  replace R := (R.grown r1 (by simp)).set_other nz' 2 (.slice (some ⟨g1, 0, none⟩) b.fa.length k1)
  replace o1 := o1.grown t1 (fun x e => by cases e; simp; omega)
  have s1 : v0.heap.size ≤ (u1.setCell ⟨w.heap.size, 2, none⟩ (.slice (some ⟨g1, 0, none⟩) b.fa.length k1)).heap.size := by simpa using r1.size
  replace l1 : g1 < (u1.setCell ⟨w.heap.size, 2, none⟩ (.slice (some ⟨g1, 0, none⟩) b.fa.length k1)).heap.size := by simpa using l1
  clear x0 x1 x2 x3 x4 x5 x6 x7 x8 x9 x10 x11 x12
  clear f0 f1 f2 f3 f4 f5 f6 f7 f8 f9 f10 f11 f12
  clear t1 r1
  generalize u1.setCell ⟨w.heap.size, 2, none⟩ (.slice (some ⟨g1, 0, none⟩) b.fa.length k1) = v1 at *
  obtain ⟨⟨⟨x0, x1, x2⟩, x3, x4⟩, ⟨⟨x5, x6, x7⟩, x8, x9, x10⟩, x11, x12⟩ := thirteen K
  obtain ⟨⟨⟨f0, f1, f2⟩, f3, f4⟩, ⟨⟨f5, f6, f7⟩, f8, f9, f10⟩, f11, f12⟩ := free13 K
  go_wp2_with fail
  refine (cS _ (h.se.kept G)).mono ?_
  rintro e w2 ⟨ps, rfl, r, O⟩
  replace G := gr_trans G r
  replace K := K.grown r (by simp)
  replace R := R.grown r (by simp)
  replace o1 := o1.kept r
  clear x0 x1 x2 x3 x4 x5 x6 x7 x8 x9 x10 x11 x12
  clear f0 f1 f2 f3 f4 f5 f6 f7 f8 f9 f10 f11 f12
  have s2 := r.size
  clear r
  obtain ⟨⟨⟨x0, x1, x2⟩, x3, x4⟩, ⟨⟨x5, x6, x7⟩, x8, x9, x10⟩, x11, x12⟩ := thirteen K
  obtain ⟨⟨⟨f0, f1, f2⟩, f3, f4⟩, ⟨⟨f5, f6, f7⟩, f8, f9, f10⟩, f11, f12⟩ := free13 K
  go_upto_region 3 with fail
  replace G := gr_new G (Nat.le_refl w.heap.size) 5 (.slice ps.a1 b.se.sp.length ps.c1)
  replace o1 := o1.grown (gr_set (gr_refl _ (some w.heap.size)) 5 (.slice ps.a1 b.se.sp.length ps.c1)) (fun x e => by cases e; simp; omega)
  replace O := O.box1b K (by decide) (by decide) 5 (.slice ps.a1 b.se.sp.length ps.c1)
  replace K := put5 K (.slice ps.a1 b.se.sp.length ps.c1)
  replace R := R.set_other nz' 5 (.slice ps.a1 b.se.sp.length ps.c1)
  replace G := gr_new G (Nat.le_refl w.heap.size) 6 (.slice ps.a2 b.se.he.length ps.c2)
  replace o1 := o1.grown (gr_set (gr_refl _ (some w.heap.size)) 6 (.slice ps.a2 b.se.he.length ps.c2)) (fun x e => by cases e; simp; omega)
  replace O := O.box1b K (by decide) (by decide) 6 (.slice ps.a2 b.se.he.length ps.c2)
  replace K := put6 K (.slice ps.a2 b.se.he.length ps.c2)
  replace R := R.set_other nz' 6 (.slice ps.a2 b.se.he.length ps.c2)
  replace G := gr_new G (Nat.le_refl w.heap.size) 7 (.slice ps.a3 b.se.fa.length ps.c3)
  replace o1 := o1.grown (gr_set (gr_refl _ (some w.heap.size)) 7 (.slice ps.a3 b.se.fa.length ps.c3)) (fun x e => by cases e; simp; omega)
  replace O := O.box1b K (by decide) (by decide) 7 (.slice ps.a3 b.se.fa.length ps.c3)
  replace K := put7 K (.slice ps.a3 b.se.fa.length ps.c3)
  replace R := R.set_other nz' 7 (.slice ps.a3 b.se.fa.length ps.c3)
  replace G := gr_new G (Nat.le_refl w.heap.size) 8 (.int .i64 b.se.wn)
  replace o1 := o1.grown (gr_set (gr_refl _ (some w.heap.size)) 8 (.int .i64 b.se.wn)) (fun x e => by cases e; simp; omega)
  replace O := O.box1b K (by decide) (by decide) 8 (.int .i64 b.se.wn)
  replace K := put8 K (.int .i64 b.se.wn)
  replace R := R.set_other nz' 8 (.int .i64 b.se.wn)
  replace G := gr_new G (Nat.le_refl w.heap.size) 9 (.bool b.se.ar)
  replace o1 := o1.grown (gr_set (gr_refl _ (some w.heap.size)) 9 (.bool b.se.ar)) (fun x e => by cases e; simp; omega)
  replace O := O.box1b K (by decide) (by decide) 9 (.bool b.se.ar)
  replace K := put9 K (.bool b.se.ar)
  replace R := R.set_other nz' 9 (.bool b.se.ar)
  replace G := gr_new G (Nat.le_refl w.heap.size) 10 (.slice ps.a4 b.se.sq.length ps.c4)
  replace o1 := o1.grown (gr_set (gr_refl _ (some w.heap.size)) 10 (.slice ps.a4 b.se.sq.length ps.c4)) (fun x e => by cases e; simp; omega)
  replace O := O.box1b K (by decide) (by decide) 10 (.slice ps.a4 b.se.sq.length ps.c4)
  replace K := put10 K (.slice ps.a4 b.se.sq.length ps.c4)
  replace R := R.set_other nz' 10 (.slice ps.a4 b.se.sq.length ps.c4)
  replace s2 : v1.heap.size ≤ ((((((w2.setCell ⟨w.heap.size, 5, none⟩ (.slice ps.a1 b.se.sp.length ps.c1)).setCell ⟨w.heap.size, 6, none⟩ (.slice ps.a2 b.se.he.length ps.c2)).setCell ⟨w.heap.size, 7, none⟩ (.slice ps.a3 b.se.fa.length ps.c3)).setCell ⟨w.heap.size, 8, none⟩ (.int .i64 b.se.wn)).setCell ⟨w.heap.size, 9, none⟩ (.bool b.se.ar)).setCell ⟨w.heap.size, 10, none⟩ (.slice ps.a4 b.se.sq.length ps.c4)).heap.size := by simpa using s2
  clear x0 x1 x2 x3 x4 x5 x6 x7 x8 x9 x10 x11 x12
  clear f0 f1 f2 f3 f4 f5 f6 f7 f8 f9 f10 f11 f12
  generalize ((((((w2.setCell ⟨w.heap.size, 5, none⟩ (.slice ps.a1 b.se.sp.length ps.c1)).setCell ⟨w.heap.size, 6, none⟩ (.slice ps.a2 b.se.he.length ps.c2)).setCell ⟨w.heap.size, 7, none⟩ (.slice ps.a3 b.se.fa.length ps.c3)).setCell ⟨w.heap.size, 8, none⟩ (.int .i64 b.se.wn)).setCell ⟨w.heap.size, 9, none⟩ (.bool b.se.ar)).setCell ⟨w.heap.size, 10, none⟩ (.slice ps.a4 b.se.sq.length ps.c4)) = v2 at *
  obtain ⟨⟨⟨x0, x1, x2⟩, x3, x4⟩, ⟨⟨x5, x6, x7⟩, x8, x9, x10⟩, x11, x12⟩ := thirteen K
  obtain ⟨⟨⟨f0, f1, f2⟩, f3, f4⟩, ⟨⟨f5, f6, f7⟩, f8, f9, f10⟩, f11, f12⟩ := free13 K
  go_wp2_with fail
  refine (stm.specCopy p.ou p.oc b.ou _ (h.ou.kept G) z7 n7).mono ?_
  rintro e w3 ⟨a5, k5, rfl, r, q4'⟩
  obtain ⟨q4, b4⟩ := se.own_of_frm q4' z7
  replace G := gr_trans G r
  replace K := K.grown r (by simp)
  replace R := R.grown r (by simp)
  replace o1 := o1.kept r
  replace O := O.kept r
  clear x0 x1 x2 x3 x4 x5 x6 x7 x8 x9 x10 x11 x12
  clear f0 f1 f2 f3 f4 f5 f6 f7 f8 f9 f10 f11 f12
  have s3 := r.size
  clear r
  obtain ⟨⟨⟨x0, x1, x2⟩, x3, x4⟩, ⟨⟨x5, x6, x7⟩, x8, x9, x10⟩, x11, x12⟩ := thirteen K
  obtain ⟨⟨⟨f0, f1, f2⟩, f3, f4⟩, ⟨⟨f5, f6, f7⟩, f8, f9, f10⟩, f11, f12⟩ := free13 K
  go_upto_region 4 with fail
  replace G := gr_new G (Nat.le_refl w.heap.size) 11 (.slice a5 b.ou.length k5)
  replace o1 := o1.grown (gr_set (gr_refl _ (some w.heap.size)) 11 (.slice a5 b.ou.length k5)) (fun x e => by cases e; simp; omega)
  replace O := O.box1b K (by decide) (by decide) 11 (.slice a5 b.ou.length k5)
  replace q4 := q4.grown (gr_set (gr_refl w3 (some w.heap.size)) 11 (.slice a5 b.ou.length k5)) (fun x e => by have := b4 x e; simp; omega)
  replace K := put11 K (.slice a5 b.ou.length k5)
  replace R := R.set_other nz' 11 (.slice a5 b.ou.length k5)
  replace s3 : v2.heap.size ≤ (w3.setCell ⟨w.heap.size, 11, none⟩ (.slice a5 b.ou.length k5)).heap.size := by simpa using s3
  clear x0 x1 x2 x3 x4 x5 x6 x7 x8 x9 x10 x11 x12
  clear f0 f1 f2 f3 f4 f5 f6 f7 f8 f9 f10 f11 f12
  generalize w3.setCell ⟨w.heap.size, 11, none⟩ (.slice a5 b.ou.length k5) = v3 at *
  obtain ⟨⟨⟨x0, x1, x2⟩, x3, x4⟩, ⟨⟨x5, x6, x7⟩, x8, x9, x10⟩, x11, x12⟩ := thirteen K
  obtain ⟨⟨⟨d0, d1, d2⟩, d3, d4⟩, ⟨⟨d5, d6, d7⟩, d8, d9, d10⟩, d11, d12⟩ := thirteen R
  obtain ⟨⟨⟨f0, f1, f2⟩, f3, f4⟩, ⟨⟨f5, f6, f7⟩, f8, f9, f10⟩, f11, f12⟩ := free13 R
  go_wp2_with fail
  have O9 : OwnB v0.heap.size v3 b ⟨some ⟨g1, 0, none⟩, k1, ps, a5, k5⟩ := ⟨o1, O.below (by omega), q4, fun x e => by cases e; exact b1, fun x e => by have := b4 x e; omega⟩
  have GG := gr_lay G (show w.heap.size ≤ w.heap.size + 1 by omega) (.int .i64 b.md) (.int .i64 b.tm) (.slice (some ⟨g1, 0, none⟩) b.fa.length k1) (.int .i64 b.ga.1) (.bool b.ga.2) (.slice ps.a1 b.se.sp.length ps.c1) (.slice ps.a2 b.se.he.length ps.c2) (.slice ps.a3 b.se.fa.length ps.c3) (.int .i64 b.se.wn) (.bool b.se.ar) (.slice ps.a4 b.se.sq.length ps.c4) (.slice a5 b.ou.length k5) (str b.ta)
  have R9 := set_lay R (.int .i64 b.md) (.int .i64 b.tm) (.slice (some ⟨g1, 0, none⟩) b.fa.length k1) (.int .i64 b.ga.1) (.bool b.ga.2) (.slice ps.a1 b.se.sp.length ps.c1) (.slice ps.a2 b.se.he.length ps.c2) (.slice ps.a3 b.se.fa.length ps.c3) (.int .i64 b.se.wn) (.bool b.se.ar) (.slice ps.a4 b.se.sq.length ps.c4) (.slice a5 b.ou.length k5) (str b.ta)
  have Q := O9.far R (by decide) (by decide) (by decide) (chg_lay v3 (w.heap.size + 1) (.int .i64 b.md) (.int .i64 b.tm) (.slice (some ⟨g1, 0, none⟩) b.fa.length k1) (.int .i64 b.ga.1) (.bool b.ga.2) (.slice ps.a1 b.se.sp.length ps.c1) (.slice ps.a2 b.se.he.length ps.c2) (.slice ps.a3 b.se.fa.length ps.c3) (.int .i64 b.se.wn) (.bool b.se.ar) (.slice ps.a4 b.se.sq.length ps.c4) (.slice a5 b.ou.length k5) (str b.ta))
  obtain ⟨⟨⟨t0, t1, t2⟩, t3, t4⟩, ⟨⟨t5, t6, t7⟩, t8, t9, t10⟩, t11, t12⟩ := thirteen R9
  exact bodyPost_ret (v := bv b ⟨some ⟨g1, 0, none⟩, k1, ps, a5, k5⟩) (by simp [results, Tryz.results122, go_sem, t0, t1, t2, t3, t4, t5, t6, t7, t8, t9, t10, t11, t12]) rfl ⟨_, rfl, GG, Q.below (by omega)⟩
end Go.Proofs.YtdikhdfpcipdbaaGreatDoor.br
