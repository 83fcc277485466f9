/- Senses copied by the model: l15Copy. -/
import Derived.Test.YtdikhdfpcipdbaaGreatDoorSeAged
import Derived.Test.YtdikhdfpcipdbaaGreatDoorStHeard
import Derived.Deep.AppendLies
namespace Go.Proofs.YtdikhdfpcipdbaaGreatDoor.se
open Go.ChangeShapes Go.WideShapes Go.ChangeAt Go.RowKit
open Go.Proofs.YtdikhdfpcipdbaaGreatDoor.nums Go.Proofs.YtdikhdfpcipdbaaGreatDoor.mem
open Go.Proofs.YtdikhdfpcipdbaaGreatDoor.tab (Ret add_off)
open Go.Proofs.YtdikhdfpcipdbaaGreatDoor.rd (R okR ageR zR rx ra ro OwnR rowR rowR_at arg_of_row add0 infoReading)
open Go.Proofs.YtdikhdfpcipdbaaGreatDoor.il (nth Ints Own)
set_option linter.unusedVariables false

theorem rowR_one : ∀ (l : List R), ∀ u ∈ rowR l, u.oneCell' = true := by
  intro l
  induction l with
  | nil => intro u h; cases h
  | cons x l ih =>
    intro u h
    simp only [rowR, List.mem_cons] at h
    rcases h with rfl | rfl | rfl | h
    · rfl
    · rfl
    · rfl
    · exact ih u h
theorem rowR_len : ∀ (l : List R), (rowR l).length = l.length * 3 := by
  intro l
  induction l with
  | nil => rfl
  | cons x l ih => simp only [rowR, List.length_cons, ih]; omega
theorem news_of_arg {w : World} {x : Addr} {l : List R} (h : rd.Arg w (some x) l) : ∀ j u, (rowR l)[j]? = some u → w.cell? (x.add j) = some u := by
  intro j u hu
  have hj : j < l.length * 3 := by rw [← rowR_len]; exact (List.getElem?_eq_some_iff.1 hu).1
  obtain ⟨k, r, hr, rfl⟩ : ∃ k r, r < 3 ∧ j = k * 3 + r := ⟨j / 3, j % 3, by omega, by omega⟩
  have hk : k < l.length := by omega
  obtain ⟨y, e, _, c0, c1, c2⟩ := h k hk
  injection e with e
  subst e
  obtain ⟨r0, r1, r2⟩ := rowR_at l k hk
  rcases (show r = 0 ∨ r = 1 ∨ r = 2 by omega) with rfl | rfl | rfl
  · rw [Nat.add_zero] at hu ⊢; rw [r0] at hu; injection hu with hu; subst hu; exact c0
  · rw [r1] at hu; injection hu with hu; subst hu; rw [show k * 3 + 1 = k * 3 + (0 + 1) by omega, add_off]; exact c1
  · rw [r2] at hu; injection hu with hu; subst hu; rw [show k * 3 + 2 = k * 3 + (1 + 1) by omega, add_off]; exact c2
theorem own_of_row {w : World} {base cap g : Nat} {l : List R} (h : w.ownsRow base 42 3 (.slice (some ⟨g, 0, none⟩) l.length cap) l.length (rowR l)) : OwnR w (some ⟨g, 0, none⟩) l := by
  rcases h.2 with ⟨h0, _⟩ | ⟨g', cap', cur, hv, _, hc, _⟩
  · cases h0
  · injection hv with hv1 hv2 hv3
    injection hv1 with hv1
    injection hv1 with hv1 _ _
    subst hv1
    refine Or.inr ⟨g, cur, rfl, hc, fun k hk => ?_⟩
    obtain ⟨x, e, _, c0, c1, c2⟩ := arg_of_row h k hk
    injection e with e
    subst e
    rw [add0] at c0 c1 c2
    exact ⟨(Has.cell hc _).symm.trans c0, (Has.cell hc _).symm.trans c1, (Has.cell hc _).symm.trans c2⟩
/-- A list laid behind an empty one in a new block. -/
theorem app_copy {ops : Array Oper} {rest : List Oper} {o : Oper} {a : Act} {Q : Exit → Act → World → Prop} (hgd : o.guard = none) (s x : Operand)
    (ho : o.op = .call { callee := .builtin .append, args := #[s, x], argTypes := #[24, 24] }) (w0 : World) (g : Nat) (hg : w0.heap.size = g) (hs : a.eval s = .slice (some ⟨g, 0, none⟩) 0 0)
    (b : Option Addr) (cap : Nat) (l : List R) (hx : a.eval x = .slice b l.length cap) (h : rd.Arg w0 b l) (h0 : 0 < l.length) (hl : l.length ≤ 1048576)
    (H : ∀ g' cap' w', w0.grownBy w' none → OwnR w' (some ⟨g', 0, none⟩) l → w0.heap.size ≤ g' → g' < w'.heap.size → l.length ≤ cap' → cap' ≤ maxLen → wpList Tryz.prog ops Q rest (a.put o.dst (.slice (some ⟨g', 0, none⟩) l.length cap')) w') :
    wpList Tryz.prog ops Q (o :: rest) a (w0.alloc (Obj.cells #[] 42)) := by
  subst hg
  obtain ⟨i0, hi, hz0, hz1, hz2⟩ := info_parts infoReading
  obtain ⟨ad, e, _⟩ := h 0 h0
  subst e
  have g0 : w0.grownBy (w0.alloc (Obj.cells #[] 42)) none := World.grownBy_alloc _ _ _
  have o0 := World.ownsRow_made (base := w0.heap.size) (e := 42) (size := 3) w0 #[] 0 (Nat.le_refl _) (Nat.zero_le _) rfl
  refine wpList_append_lies _ hgd s x _ ho w0.heap.size 42 i0 _ 3 24 Tryz.underlying24 hi hz0 hz1 hz2 rfl (by omega) _ 0 [] hs o0 ad l.length cap (rowR l) hx (rowR_len l) (news_of_arg (h.kept g0)) (rowR_one l) h0 (by unfold maxLen; omega) (by omega) (by simp) (w0.heap.size + 1) (by simp) ?_
  intro gg cap1 w1 hown hgrow hat hlt
  simp only [Nat.zero_add, List.nil_append] at hown ⊢
  have hcap : l.length ≤ cap1 ∧ cap1 ≤ maxLen := by
    rcases hown.2 with ⟨e, _⟩ | ⟨g, c, cur, e, _, _, h1, h2, _⟩
    · cases e
    · injection e with e1 e2 e3
      subst e3
      exact ⟨h1, h2⟩
  exact H gg cap1 w1 (gr_past g0 hgrow (Nat.le_refl _)) (own_of_row hown) (by
    rcases hat with hat | hat
    · simp [Value.ownBlock] at hat; omega
    · omega) hlt hcap.1 hcap.2

/-- A copy comes back, and how much room its last readings have. -/
def RetSC (s : S) (w : World) (e : Ending) (w' : World) : Prop := ∃ p, e = .returned (sv s p) ∧ w.grownBy w' none ∧ OwnS w.heap.size w' s p ∧ s.fa.length ≤ p.c3 ∧ p.c3 ≤ maxLen
set_option maxRecDepth 100000 in
set_option maxHeartbeats 2000000 in
theorem specCopyL (sp he fa : List R) (wn : Int) (ar : Bool) (sq : List Int) (a1 a2 a3 a4 : Option Addr) (c1 c2 c3 c4 : Nat) (w : World) (h1 : rd.Arg w a1 sp) (h2 : rd.Arg w a2 he) (h3 : rd.Arg w a3 fa) (h4 : Ints w a4 sq)
    (p1 : 0 < sp.length) (p2 : 0 < he.length) (p3 : 0 < fa.length) (n1 : sp.length ≤ 1048576) (n2 : he.length ≤ 1048576) (n3 : fa.length ≤ 1048576) (n4 : sq.length ≤ 100) (z4 : sq ≠ []) :
    Calls Tryz.prog 39 #[sv ⟨sp, he, fa, wn, ar, sq⟩ ⟨a1, c1, a2, c2, a3, c3, a4, c4⟩] w (RetSC ⟨sp, he, fa, wn, ar, sq⟩ w) := by
  have K : Has ((w.alloc (Obj.cells #[.slice a1 sp.length c1, .slice a2 he.length c2, .slice a3 fa.length c3, .int .i64 wn, .bool ar, .slice a4 sq.length c4] 27)).alloc (Obj.cells #[.slice none 0 0, .slice none 0 0, .slice none 0 0, .int .i64 0, .bool false, .slice none 0 0] 27)) w.heap.size 27 #[.slice a1 sp.length c1, .slice a2 he.length c2, .slice a3 fa.length c3, .int .i64 wn, .bool ar, .slice a4 sq.length c4] := (Has.fresh w _ _).alloc _
  have R := Has.fresh (w.alloc (Obj.cells #[.slice a1 sp.length c1, .slice a2 he.length c2, .slice a3 fa.length c3, .int .i64 wn, .bool ar, .slice a4 sq.length c4] 27)) 27 #[.slice none 0 0, .slice none 0 0, .slice none 0 0, .int .i64 0, .bool false, .slice none 0 0]
  have G := gr_alloc (World.grownBy_alloc w (Obj.cells #[.slice a1 sp.length c1, .slice a2 he.length c2, .slice a3 fa.length c3, .int .i64 wn, .bool ar, .slice a4 sq.length c4] 27) none) (Obj.cells #[.slice none 0 0, .slice none 0 0, .slice none 0 0, .int .i64 0, .bool false, .slice none 0 0] 27)
  simp only [World.size_alloc] at R
  have nz' : w.heap.size + 1 ≠ w.heap.size := by omega
  obtain ⟨⟨c_0, c_1, c_2⟩, c_3, c_4, c_5⟩ := six K
  obtain ⟨⟨f0, f1, f2⟩, f3, f4, f5⟩ := free6 K
  go_enter Tryz.func39, Tryz.ntmps39
  go_upto_region 1 with fail
  have hsW : w.heap.size + 1 < ((w.alloc (Obj.cells #[.slice a1 sp.length c1, .slice a2 he.length c2, .slice a3 fa.length c3, .int .i64 wn, .bool ar, .slice a4 sq.length c4] 27)).alloc (Obj.cells #[.slice none 0 0, .slice none 0 0, .slice none 0 0, .int .i64 0, .bool false, .slice none 0 0] 27)).heap.size := by simp
  generalize ((w.alloc (Obj.cells #[.slice a1 sp.length c1, .slice a2 he.length c2, .slice a3 fa.length c3, .int .i64 wn, .bool ar, .slice a4 sq.length c4] 27)).alloc (Obj.cells #[.slice none 0 0, .slice none 0 0, .slice none 0 0, .int .i64 0, .bool false, .slice none 0 0] 27)) = v0 at *
  obtain ⟨⟨x0, x1, x2⟩, _, _, _⟩ := six (K.alloc (Obj.cells #[] 42))
  go_upto_region 2 with (at_builtin; refine app_copy rfl _ _ rfl v0 _ rfl rfl a1 c1 sp rfl (h1.kept G) p1 n1 ?_; intro g1 k1 u1 r1 o1 b1 l1 y1 z1; clear c_0 c_1 c_2 c_3 c_4 c_5 f0 f1 f2 f3 f4 f5 x0 x1 x2; replace K := K.grown r1 (by simp); obtain ⟨⟨c_0, c_1, c_2⟩, c_3, c_4, c_5⟩ := six K; obtain ⟨⟨f0, f1, f2⟩, f3, f4, f5⟩ := free6 K)
  have t1 := gr_set (gr_refl u1 (some w.heap.size)) 0 (.slice (some ⟨g1, 0, none⟩) sp.length k1)
  replace G := gr_new (gr_trans G r1) (Nat.le_refl w.heap.size) 0 (.slice (some ⟨g1, 0, none⟩) sp.length k1)
  replace K := K.put 0 (.slice (some ⟨g1, 0, none⟩) sp.length k1) rfl
  replace R := (R.grown r1 (by simp)).set_other nz' 0 (.slice (some ⟨g1, 0, none⟩) sp.length k1)
  replace o1 := o1.grown t1 (fun x e => by cases e; simp; omega)
  replace l1 : g1 < (u1.setCell ⟨w.heap.size, 0, none⟩ (.slice (some ⟨g1, 0, none⟩) sp.length k1)).heap.size := by simpa using l1
  have s1 : v0.heap.size ≤ (u1.setCell ⟨w.heap.size, 0, none⟩ (.slice (some ⟨g1, 0, none⟩) sp.length k1)).heap.size := by simpa using r1.size
  clear c_0 c_1 c_2 c_3 c_4 c_5 f0 f1 f2 f3 f4 f5 t1 r1
  generalize u1.setCell ⟨w.heap.size, 0, none⟩ (.slice (some ⟨g1, 0, none⟩) sp.length k1) = v1 at *
  obtain ⟨⟨c_0, c_1, c_2⟩, c_3, c_4, c_5⟩ := six K
  obtain ⟨⟨f0, f1, f2⟩, f3, f4, f5⟩ := free6 K
  obtain ⟨⟨x0, x1, x2⟩, _, _, _⟩ := six (K.alloc (Obj.cells #[] 42))
  go_upto_region 3 with (at_builtin; refine app_copy rfl _ _ rfl v1 _ rfl rfl a2 c2 he rfl (h2.kept G) p2 n2 ?_; intro g2 k2 u2 r2 o2 b2 l2 y2 z2; clear c_0 c_1 c_2 c_3 c_4 c_5 f0 f1 f2 f3 f4 f5 x0 x1 x2; replace K := K.grown r2 (by simp); obtain ⟨⟨c_0, c_1, c_2⟩, c_3, c_4, c_5⟩ := six K; obtain ⟨⟨f0, f1, f2⟩, f3, f4, f5⟩ := free6 K)
  have t2 := gr_set (gr_refl u2 (some w.heap.size)) 1 (.slice (some ⟨g2, 0, none⟩) he.length k2)
  replace G := gr_new (gr_trans G r2) (Nat.le_refl w.heap.size) 1 (.slice (some ⟨g2, 0, none⟩) he.length k2)
  replace K := K.put 1 (.slice (some ⟨g2, 0, none⟩) he.length k2) rfl
  replace R := (R.grown r2 (by simp)).set_other nz' 1 (.slice (some ⟨g2, 0, none⟩) he.length k2)
  replace o2 := o2.grown t2 (fun x e => by cases e; simp; omega)
  replace o1 := (o1.kept r2).grown t2 (fun x e => by cases e; simp; omega)
  replace l2 : g2 < (u2.setCell ⟨w.heap.size, 1, none⟩ (.slice (some ⟨g2, 0, none⟩) he.length k2)).heap.size := by simpa using l2
  have s2 : v1.heap.size ≤ (u2.setCell ⟨w.heap.size, 1, none⟩ (.slice (some ⟨g2, 0, none⟩) he.length k2)).heap.size := by simpa using r2.size
  clear c_0 c_1 c_2 c_3 c_4 c_5 f0 f1 f2 f3 f4 f5 t2 r2
  generalize u2.setCell ⟨w.heap.size, 1, none⟩ (.slice (some ⟨g2, 0, none⟩) he.length k2) = v2 at *
  obtain ⟨⟨c_0, c_1, c_2⟩, c_3, c_4, c_5⟩ := six K
  obtain ⟨⟨f0, f1, f2⟩, f3, f4, f5⟩ := free6 K
  obtain ⟨⟨x0, x1, x2⟩, _, _, _⟩ := six (K.alloc (Obj.cells #[] 42))
  go_upto_region 4 with (at_builtin; refine app_copy rfl _ _ rfl v2 _ rfl rfl a3 c3 fa rfl (h3.kept G) p3 n3 ?_; intro g3 k3 u3 r3 o3 b3 l3 y3 z3; clear c_0 c_1 c_2 c_3 c_4 c_5 f0 f1 f2 f3 f4 f5 x0 x1 x2; replace K := K.grown r3 (by simp); obtain ⟨⟨c_0, c_1, c_2⟩, c_3, c_4, c_5⟩ := six K; obtain ⟨⟨f0, f1, f2⟩, f3, f4, f5⟩ := free6 K)
  have t3 := gr_set (gr_refl u3 (some w.heap.size)) 2 (.slice (some ⟨g3, 0, none⟩) fa.length k3)
  replace G := gr_new (gr_trans G r3) (Nat.le_refl w.heap.size) 2 (.slice (some ⟨g3, 0, none⟩) fa.length k3)
  replace K := K.put 2 (.slice (some ⟨g3, 0, none⟩) fa.length k3) rfl
  replace R := (R.grown r3 (by simp)).set_other nz' 2 (.slice (some ⟨g3, 0, none⟩) fa.length k3)
  replace o3 := o3.grown t3 (fun x e => by cases e; simp; omega)
  replace o1 := (o1.kept r3).grown t3 (fun x e => by cases e; simp; omega)
  replace o2 := (o2.kept r3).grown t3 (fun x e => by cases e; simp; omega)
  replace l3 : g3 < (u3.setCell ⟨w.heap.size, 2, none⟩ (.slice (some ⟨g3, 0, none⟩) fa.length k3)).heap.size := by simpa using l3
  have s3 : v2.heap.size ≤ (u3.setCell ⟨w.heap.size, 2, none⟩ (.slice (some ⟨g3, 0, none⟩) fa.length k3)).heap.size := by simpa using r3.size
  clear c_0 c_1 c_2 c_3 c_4 c_5 f0 f1 f2 f3 f4 f5 t3 r3
  generalize u3.setCell ⟨w.heap.size, 2, none⟩ (.slice (some ⟨g3, 0, none⟩) fa.length k3) = v3 at *
  obtain ⟨⟨c_0, c_1, c_2⟩, c_3, c_4, c_5⟩ := six K
  obtain ⟨⟨f0, f1, f2⟩, f3, f4, f5⟩ := free6 K
  go_wp2_with fail
  refine (stm.specCopy a4 c4 sq _ (h4.kept G) z4 n4).mono ?_
  rintro e w4 ⟨a5, k5, rfl, r4, q4'⟩
  obtain ⟨q4, b4⟩ := own_of_frm q4' z4
  replace G := gr_trans G r4
  replace K := K.grown r4 (by simp)
  replace R := R.grown r4 (by simp)
  replace o1 := o1.kept r4
  replace o2 := o2.kept r4
  replace o3 := o3.kept r4
  have lR := R.lt
  have s4 := r4.size
  clear c_0 c_1 c_2 c_3 c_4 c_5 f0 f1 f2 f3 f4 f5
  obtain ⟨⟨c_0, c_1, c_2⟩, c_3, c_4, c_5⟩ := six K
  obtain ⟨⟨f0, f1, f2⟩, f3, f4, f5⟩ := free6 K
  obtain ⟨⟨d0, d1, d2⟩, d3, d4, d5⟩ := six R
  obtain ⟨⟨e0, e1, e2⟩, e3, e4, e5⟩ := free6 R
  go_wp2_with fail
  have S1 := gr_set (gr_refl w4 (some w.heap.size)) 5 (.slice a5 sq.length k5)
  have O : OwnS v0.heap.size (w4.setCell ⟨w.heap.size, 5, none⟩ (.slice a5 sq.length k5)) ⟨sp, he, fa, wn, ar, sq⟩ ⟨some ⟨g1, 0, none⟩, k1, some ⟨g2, 0, none⟩, k2, some ⟨g3, 0, none⟩, k3, a5, k5⟩ :=
    ⟨o1.grown S1 (fun x e => by cases e; simp; omega), o2.grown S1 (fun x e => by cases e; simp; omega), o3.grown S1 (fun x e => by cases e; simp; omega), q4.grown S1 (fun x e => by have := b4 x e; simp; omega),
      (fun x e => by cases e; exact b1), (fun x e => by cases e; show v0.heap.size ≤ g2; omega), (fun x e => by cases e; show v0.heap.size ≤ g3; omega), (fun x e => by have := b4 x e; omega), (fun x y ex ey => by cases ex; cases ey; show g1 ≠ g2; omega), (fun x y ex ey => by cases ex; cases ey; show g1 ≠ g3; omega), (fun x y ex ey => by cases ex; cases ey; show g2 ≠ g3; omega)⟩
  have Q := O.set6 (w.heap.size + 1) hsW (.slice (some ⟨g1, 0, none⟩) sp.length k1) (.slice (some ⟨g2, 0, none⟩) he.length k2) (.slice (some ⟨g3, 0, none⟩) fa.length k3) (.int .i64 wn) (.bool ar) (.slice a5 sq.length k5)
  have GG := gr6 (gr_new G (Nat.le_refl w.heap.size) 5 (.slice a5 sq.length k5)) (show w.heap.size ≤ w.heap.size + 1 by omega) (.slice (some ⟨g1, 0, none⟩) sp.length k1) (.slice (some ⟨g2, 0, none⟩) he.length k2) (.slice (some ⟨g3, 0, none⟩) fa.length k3) (.int .i64 wn) (.bool ar) (.slice a5 sq.length k5)
  obtain ⟨⟨t0, t1, t2⟩, t3, t4, t5⟩ := six (set6 (R.set_other nz' 5 (.slice a5 sq.length k5)) (.slice (some ⟨g1, 0, none⟩) sp.length k1) (.slice (some ⟨g2, 0, none⟩) he.length k2) (.slice (some ⟨g3, 0, none⟩) fa.length k3) (.int .i64 wn) (.bool ar) (.slice a5 sq.length k5))
  exact bodyPost_ret (v := .agg #[.slice (some ⟨g1, 0, none⟩) sp.length k1, .slice (some ⟨g2, 0, none⟩) he.length k2, .slice (some ⟨g3, 0, none⟩) fa.length k3, .int .i64 wn, .bool ar, .slice a5 sq.length k5]) (by simp [results, Tryz.results39, go_sem, t0, t1, t2, t3, t4, t5]) rfl ⟨_, rfl, GG, Q.below (show w.heap.size ≤ v0.heap.size by omega), y3, z3⟩
theorem specCopySC (s : S) (p : P) (w : World) (h : Arg w s p) (ho : Ok s) : Calls Tryz.prog 39 #[sv s p] w (RetSC s w) :=
  specCopyL s.sp s.he s.fa s.wn s.ar s.sq p.a1 p.a2 p.a3 p.a4 p.c1 p.c2 p.c3 p.c4 w h.sp h.he h.fa h.sq (by rw [ho.sp3]; omega) (by rw [ho.he2]; omega) (by rw [ho.fa6]; omega) (by rw [ho.sp3]; omega) (by rw [ho.he2]; omega) (by rw [ho.fa6]; omega) (by rw [ho.sq4]; omega) (fun e => by have := ho.sq4; rw [e] at this; simp at this)
theorem specCopyS (s : S) (p : P) (w : World) (h : Arg w s p) (ho : Ok s) : Calls Tryz.prog 39 #[sv s p] w (RetS s w) :=
  (specCopySC s p w h ho).mono (fun e w' ⟨q, h1, h2, h3, _, _⟩ => ⟨q, h1, h2, h3⟩)
end Go.Proofs.YtdikhdfpcipdbaaGreatDoor.se
