/- Senses copied by the model: l15Copy. Senses of one's own while they are drawn: what is laid in them anew. Readings by what was heard of them, of the model. One Kind more, of the model. -/
import Derived.Test.YtdikhdfpcipdbaaGreatDoorG29
import Derived.Test.YtdikhdfpcipdbaaGreatDoorG10
import Derived.Deep.AppendLies
import Derived.Test.YtdikhdfpcipdbaaGreatDoorG16
/- Senses copied by the model: l15Copy. -/
namespace Go.Proofs.YtdikhdfpcipdbaaGreatDoor.se
open Go.ChangeShapes Go.WideShapes Go.ChangeAt Go.RowKit
open Go.Proofs.YtdikhdfpcipdbaaGreatDoor.nums Go.Proofs.YtdikhdfpcipdbaaGreatDoor.mem
open Go.Proofs.YtdikhdfpcipdbaaGreatDoor.tab (Ret add_off)
open Go.Proofs.YtdikhdfpcipdbaaGreatDoor.rd (R okR ageR zR rx ra ro OwnR rowR rowR_at arg_of_row add0 infoReading)
open Go.Proofs.YtdikhdfpcipdbaaGreatDoor.il (nth Ints Own)
set_option linter.unusedVariables false

theorem rowR_one : ∀ (l : List R), ∀ u ∈ rowR l, u.oneCell' = true := by
  intro l
  induction l with
  | nil => intro u h; cases h
  | cons x l ih =>
    intro u h
    simp only [rowR, List.mem_cons] at h
    rcases h with rfl | rfl | rfl | h
    · rfl
    · rfl
    · rfl
    · exact ih u h
theorem rowR_len : ∀ (l : List R), (rowR l).length = l.length * 3 := by
  intro l
  induction l with
  | nil => rfl
  | cons x l ih => simp only [rowR, List.length_cons, ih]; omega
theorem news_of_arg {w : World} {x : Addr} {l : List R} (h : rd.Arg w (some x) l) : ∀ j u, (rowR l)[j]? = some u → w.cell? (x.add j) = some u := by
  intro j u hu
  have hj : j < l.length * 3 := by rw [← rowR_len]; exact (List.getElem?_eq_some_iff.1 hu).1
  obtain ⟨k, r, hr, rfl⟩ : ∃ k r, r < 3 ∧ j = k * 3 + r := ⟨j / 3, j % 3, by omega, by omega⟩
  have hk : k < l.length := by omega
  obtain ⟨y, e, _, c0, c1, c2⟩ := h k hk
  injection e with e
  subst e
  obtain ⟨r0, r1, r2⟩ := rowR_at l k hk
  rcases (show r = 0 ∨ r = 1 ∨ r = 2 by omega) with rfl | rfl | rfl
  · rw [Nat.add_zero] at hu ⊢; rw [r0] at hu; injection hu with hu; subst hu; exact c0
  · rw [r1] at hu; injection hu with hu; subst hu; rw [show k * 3 + 1 = k * 3 + (0 + 1) by omega, add_off]; exact c1
  · rw [r2] at hu; injection hu with hu; subst hu; rw [show k * 3 + 2 = k * 3 + (1 + 1) by omega, add_off]; exact c2
theorem own_of_row {w : World} {base cap g : Nat} {l : List R} (h : w.ownsRow base 42 3 (.slice (some ⟨g, 0, none⟩) l.length cap) l.length (rowR l)) : OwnR w (some ⟨g, 0, none⟩) l := by
  rcases h.2 with ⟨h0, _⟩ | ⟨g', cap', cur, hv, _, hc, _⟩
  · cases h0
  · injection hv with hv1 hv2 hv3
    injection hv1 with hv1
    injection hv1 with hv1 _ _
    subst hv1
    refine Or.inr ⟨g, cur, rfl, hc, fun k hk => ?_⟩
    obtain ⟨x, e, _, c0, c1, c2⟩ := arg_of_row h k hk
    injection e with e
    subst e
    rw [add0] at c0 c1 c2
    exact ⟨(Has.cell hc _).symm.trans c0, (Has.cell hc _).symm.trans c1, (Has.cell hc _).symm.trans c2⟩
/-- A list laid behind an empty one in a new block. -/
theorem app_copy {ops : Array Oper} {rest : List Oper} {o : Oper} {a : Act} {Q : Exit → Act → World → Prop} (hgd : o.guard = none) (s x : Operand)
    (ho : o.op = .call { callee := .builtin .append, args := #[s, x], argTypes := #[24, 24] }) (w0 : World) (g : Nat) (hg : w0.heap.size = g) (hs : a.eval s = .slice (some ⟨g, 0, none⟩) 0 0)
    (b : Option Addr) (cap : Nat) (l : List R) (hx : a.eval x = .slice b l.length cap) (h : rd.Arg w0 b l) (h0 : 0 < l.length) (hl : l.length ≤ 1048576)
    (H : ∀ g' cap' w', w0.grownBy w' none → OwnR w' (some ⟨g', 0, none⟩) l → w0.heap.size ≤ g' → g' < w'.heap.size → l.length ≤ cap' → cap' ≤ maxLen → wpList Tryz.prog ops Q rest (a.put o.dst (.slice (some ⟨g', 0, none⟩) l.length cap')) w') :
    wpList Tryz.prog ops Q (o :: rest) a (w0.alloc (Obj.cells #[] 42)) := by
  subst hg
  obtain ⟨i0, hi, hz0, hz1, hz2⟩ := info_parts infoReading
  obtain ⟨ad, e, _⟩ := h 0 h0
  subst e
  have g0 : w0.grownBy (w0.alloc (Obj.cells #[] 42)) none := World.grownBy_alloc _ _ _
  have o0 := World.ownsRow_made (base := w0.heap.size) (e := 42) (size := 3) w0 #[] 0 (Nat.le_refl _) (Nat.zero_le _) rfl
  refine wpList_append_lies _ hgd s x _ ho w0.heap.size 42 i0 _ 3 24 Tryz.underlying24 hi hz0 hz1 hz2 rfl (by omega) _ 0 [] hs o0 ad l.length cap (rowR l) hx (rowR_len l) (news_of_arg (h.kept g0)) (rowR_one l) h0 (by unfold maxLen; omega) (by omega) (by simp) (w0.heap.size + 1) (by simp) ?_
  intro gg cap1 w1 hown hgrow hat hlt
  simp only [Nat.zero_add, List.nil_append] at hown ⊢
  have hcap : l.length ≤ cap1 ∧ cap1 ≤ maxLen := by
    rcases hown.2 with ⟨e, _⟩ | ⟨g, c, cur, e, _, _, h1, h2, _⟩
    · cases e
    · injection e with e1 e2 e3
      subst e3
      exact ⟨h1, h2⟩
  exact H gg cap1 w1 (gr_past g0 hgrow (Nat.le_refl _)) (own_of_row hown) (by
    rcases hat with hat | hat
    · simp [Value.ownBlock] at hat; omega
    · omega) hlt hcap.1 hcap.2

/-- A copy comes back, and how much room its last readings have. -/
def RetSC (s : S) (w : World) (e : Ending) (w' : World) : Prop := ∃ p, e = .returned (sv s p) ∧ w.grownBy w' none ∧ OwnS w.heap.size w' s p ∧ s.fa.length ≤ p.c3 ∧ p.c3 ≤ maxLen
set_option maxRecDepth 100000 in
set_option maxHeartbeats 2000000 in
theorem specCopyL (sp he fa : List R) (wn : Int) (ar : Bool) (sq : List Int) (a1 a2 a3 a4 : Option Addr) (c1 c2 c3 c4 : Nat) (w : World) (h1 : rd.Arg w a1 sp) (h2 : rd.Arg w a2 he) (h3 : rd.Arg w a3 fa) (h4 : Ints w a4 sq)
    (p1 : 0 < sp.length) (p2 : 0 < he.length) (p3 : 0 < fa.length) (n1 : sp.length ≤ 1048576) (n2 : he.length ≤ 1048576) (n3 : fa.length ≤ 1048576) (n4 : sq.length ≤ 100) (z4 : sq ≠ []) :
    Calls Tryz.prog 39 #[sv ⟨sp, he, fa, wn, ar, sq⟩ ⟨a1, c1, a2, c2, a3, c3, a4, c4⟩] w (RetSC ⟨sp, he, fa, wn, ar, sq⟩ w) := by
  have K : Has ((w.alloc (Obj.cells #[.slice a1 sp.length c1, .slice a2 he.length c2, .slice a3 fa.length c3, .int .i64 wn, .bool ar, .slice a4 sq.length c4] 27)).alloc (Obj.cells #[.slice none 0 0, .slice none 0 0, .slice none 0 0, .int .i64 0, .bool false, .slice none 0 0] 27)) w.heap.size 27 #[.slice a1 sp.length c1, .slice a2 he.length c2, .slice a3 fa.length c3, .int .i64 wn, .bool ar, .slice a4 sq.length c4] := (Has.fresh w _ _).alloc _
  have R := Has.fresh (w.alloc (Obj.cells #[.slice a1 sp.length c1, .slice a2 he.length c2, .slice a3 fa.length c3, .int .i64 wn, .bool ar, .slice a4 sq.length c4] 27)) 27 #[.slice none 0 0, .slice none 0 0, .slice none 0 0, .int .i64 0, .bool false, .slice none 0 0]
  have G := gr_alloc (World.grownBy_alloc w (Obj.cells #[.slice a1 sp.length c1, .slice a2 he.length c2, .slice a3 fa.length c3, .int .i64 wn, .bool ar, .slice a4 sq.length c4] 27) none) (Obj.cells #[.slice none 0 0, .slice none 0 0, .slice none 0 0, .int .i64 0, .bool false, .slice none 0 0] 27)
  simp only [World.size_alloc] at R
  have nz' : w.heap.size + 1 ≠ w.heap.size := by omega
  obtain ⟨⟨c_0, c_1, c_2⟩, c_3, c_4, c_5⟩ := six K
  obtain ⟨⟨f0, f1, f2⟩, f3, f4, f5⟩ := free6 K
  go_enter Tryz.func39, Tryz.ntmps39
  go_upto_region 1 with fail
  have hsW : w.heap.size + 1 < ((w.alloc (Obj.cells #[.slice a1 sp.length c1, .slice a2 he.length c2, .slice a3 fa.length c3, .int .i64 wn, .bool ar, .slice a4 sq.length c4] 27)).alloc (Obj.cells #[.slice none 0 0, .slice none 0 0, .slice none 0 0, .int .i64 0, .bool false, .slice none 0 0] 27)).heap.size := by simp
  generalize ((w.alloc (Obj.cells #[.slice a1 sp.length c1, .slice a2 he.length c2, .slice a3 fa.length c3, .int .i64 wn, .bool ar, .slice a4 sq.length c4] 27)).alloc (Obj.cells #[.slice none 0 0, .slice none 0 0, .slice none 0 0, .int .i64 0, .bool false, .slice none 0 0] 27)) = v0 at *
  obtain ⟨⟨x0, x1, x2⟩, _, _, _⟩ := six (K.alloc (Obj.cells #[] 42))
  go_upto_region 2 with (at_builtin; refine app_copy rfl _ _ rfl v0 _ rfl rfl a1 c1 sp rfl (h1.kept G) p1 n1 ?_; intro g1 k1 u1 r1 o1 b1 l1 y1 z1; clear c_0 c_1 c_2 c_3 c_4 c_5 f0 f1 f2 f3 f4 f5 x0 x1 x2; replace K := K.grown r1 (by simp); obtain ⟨⟨c_0, c_1, c_2⟩, c_3, c_4, c_5⟩ := six K; obtain ⟨⟨f0, f1, f2⟩, f3, f4, f5⟩ := free6 K)
  have t1 := gr_set (gr_refl u1 (some w.heap.size)) 0 (.slice (some ⟨g1, 0, none⟩) sp.length k1)
  replace G := gr_new (gr_trans G r1) (Nat.le_refl w.heap.size) 0 (.slice (some ⟨g1, 0, none⟩) sp.length k1)
  replace K := K.put 0 (.slice (some ⟨g1, 0, none⟩) sp.length k1) rfl
  replace R := (R.grown r1 (by simp)).set_other nz' 0 (.slice (some ⟨g1, 0, none⟩) sp.length k1)
  replace o1 := o1.grown t1 (fun x e => by cases e; simp; omega)
  replace l1 : g1 < (u1.setCell ⟨w.heap.size, 0, none⟩ (.slice (some ⟨g1, 0, none⟩) sp.length k1)).heap.size := by simpa using l1
  have s1 : v0.heap.size ≤ (u1.setCell ⟨w.heap.size, 0, none⟩ (.slice (some ⟨g1, 0, none⟩) sp.length k1)).heap.size := by simpa using r1.size
  clear c_0 c_1 c_2 c_3 c_4 c_5 f0 f1 f2 f3 f4 f5 t1 r1
  generalize u1.setCell ⟨w.heap.size, 0, none⟩ (.slice (some ⟨g1, 0, none⟩) sp.length k1) = v1 at *
  obtain ⟨⟨c_0, c_1, c_2⟩, c_3, c_4, c_5⟩ := six K
  obtain ⟨⟨f0, f1, f2⟩, f3, f4, f5⟩ := free6 K
  obtain ⟨⟨x0, x1, x2⟩, _, _, _⟩ := six (K.alloc (Obj.cells #[] 42))
  go_upto_region 3 with (at_builtin; refine app_copy rfl _ _ rfl v1 _ rfl rfl a2 c2 he rfl (h2.kept G) p2 n2 ?_; intro g2 k2 u2 r2 o2 b2 l2 y2 z2; clear c_0 c_1 c_2 c_3 c_4 c_5 f0 f1 f2 f3 f4 f5 x0 x1 x2; replace K := K.grown r2 (by simp); obtain ⟨⟨c_0, c_1, c_2⟩, c_3, c_4, c_5⟩ := six K; obtain ⟨⟨f0, f1, f2⟩, f3, f4, f5⟩ := free6 K)
  have t2 := gr_set (gr_refl u2 (some w.heap.size)) 1 (.slice (some ⟨g2, 0, none⟩) he.length k2)
  replace G := gr_new (gr_trans G r2) (Nat.le_refl w.heap.size) 1 (.slice (some ⟨g2, 0, none⟩) he.length k2)
  replace K := K.put 1 (.slice (some ⟨g2, 0, none⟩) he.length k2) rfl
  replace R := (R.grown r2 (by simp)).set_other nz' 1 (.slice (some ⟨g2, 0, none⟩) he.length k2)
  replace o2 := o2.grown t2 (fun x e => by cases e; simp; omega)
  replace o1 := (o1.kept r2).grown t2 (fun x e => by cases e; simp; omega)
  replace l2 : g2 < (u2.setCell ⟨w.heap.size, 1, none⟩ (.slice (some ⟨g2, 0, none⟩) he.length k2)).heap.size := by simpa using l2
  have s2 : v1.heap.size ≤ (u2.setCell ⟨w.heap.size, 1, none⟩ (.slice (some ⟨g2, 0, none⟩) he.length k2)).heap.size := by simpa using r2.size
  clear c_0 c_1 c_2 c_3 c_4 c_5 f0 f1 f2 f3 f4 f5 t2 r2
  generalize u2.setCell ⟨w.heap.size, 1, none⟩ (.slice (some ⟨g2, 0, none⟩) he.length k2) = v2 at *
  obtain ⟨⟨c_0, c_1, c_2⟩, c_3, c_4, c_5⟩ := six K
  obtain ⟨⟨f0, f1, f2⟩, f3, f4, f5⟩ := free6 K
  obtain ⟨⟨x0, x1, x2⟩, _, _, _⟩ := six (K.alloc (Obj.cells #[] 42))
  go_upto_region 4 with (at_builtin; refine app_copy rfl _ _ rfl v2 _ rfl rfl a3 c3 fa rfl (h3.kept G) p3 n3 ?_; intro g3 k3 u3 r3 o3 b3 l3 y3 z3; clear c_0 c_1 c_2 c_3 c_4 c_5 f0 f1 f2 f3 f4 f5 x0 x1 x2; replace K := K.grown r3 (by simp); obtain ⟨⟨c_0, c_1, c_2⟩, c_3, c_4, c_5⟩ := six K; obtain ⟨⟨f0, f1, f2⟩, f3, f4, f5⟩ := free6 K)
  have t3 := gr_set (gr_refl u3 (some w.heap.size)) 2 (.slice (some ⟨g3, 0, none⟩) fa.length k3)
  replace G := gr_new (gr_trans G r3) (Nat.le_refl w.heap.size) 2 (.slice (some ⟨g3, 0, none⟩) fa.length k3)
  replace K := K.put 2 (.slice (some ⟨g3, 0, none⟩) fa.length k3) rfl
  replace R := (R.grown r3 (by simp)).set_other nz' 2 (.slice (some ⟨g3, 0, none⟩) fa.length k3)
  replace o3 := o3.grown t3 (fun x e => by cases e; simp; omega)
  replace o1 := (o1.kept r3).grown t3 (fun x e => by cases e; simp; omega)
  replace o2 := (o2.kept r3).grown t3 (fun x e => by cases e; simp; omega)
  replace l3 : g3 < (u3.setCell ⟨w.heap.size, 2, none⟩ (.slice (some ⟨g3, 0, none⟩) fa.length k3)).heap.size := by simpa using l3
  have s3 : v2.heap.size ≤ (u3.setCell ⟨w.heap.size, 2, none⟩ (.slice (some ⟨g3, 0, none⟩) fa.length k3)).heap.size := by simpa using r3.size
  clear c_0 c_1 c_2 c_3 c_4 c_5 f0 f1 f2 f3 f4 f5 t3 r3
  generalize u3.setCell ⟨w.heap.size, 2, none⟩ (.slice (some ⟨g3, 0, none⟩) fa.length k3) = v3 at *
  obtain ⟨⟨c_0, c_1, c_2⟩, c_3, c_4, c_5⟩ := six K
  obtain ⟨⟨f0, f1, f2⟩, f3, f4, f5⟩ := free6 K
  go_wp2_with fail
  refine (stm.specCopy a4 c4 sq _ (h4.kept G) z4 n4).mono ?_
  rintro e w4 ⟨a5, k5, rfl, r4, q4'⟩
  obtain ⟨q4, b4⟩ := own_of_frm q4' z4
  replace G := gr_trans G r4
  replace K := K.grown r4 (by simp)
  replace R := R.grown r4 (by simp)
  replace o1 := o1.kept r4
  replace o2 := o2.kept r4
  replace o3 := o3.kept r4
  have lR := R.lt
  have s4 := r4.size
  clear c_0 c_1 c_2 c_3 c_4 c_5 f0 f1 f2 f3 f4 f5
  obtain ⟨⟨c_0, c_1, c_2⟩, c_3, c_4, c_5⟩ := six K
  obtain ⟨⟨f0, f1, f2⟩, f3, f4, f5⟩ := free6 K
  obtain ⟨⟨d0, d1, d2⟩, d3, d4, d5⟩ := six R
  obtain ⟨⟨e0, e1, e2⟩, e3, e4, e5⟩ := free6 R
  go_wp2_with fail
  have S1 := gr_set (gr_refl w4 (some w.heap.size)) 5 (.slice a5 sq.length k5)
  have O : OwnS v0.heap.size (w4.setCell ⟨w.heap.size, 5, none⟩ (.slice a5 sq.length k5)) ⟨sp, he, fa, wn, ar, sq⟩ ⟨some ⟨g1, 0, none⟩, k1, some ⟨g2, 0, none⟩, k2, some ⟨g3, 0, none⟩, k3, a5, k5⟩ :=
    ⟨o1.grown S1 (fun x e => by cases e; simp; omega), o2.grown S1 (fun x e => by cases e; simp; omega), o3.grown S1 (fun x e => by cases e; simp; omega), q4.grown S1 (fun x e => by have := b4 x e; simp; omega),
      (fun x e => by cases e; exact b1), (fun x e => by cases e; show v0.heap.size ≤ g2; omega), (fun x e => by cases e; show v0.heap.size ≤ g3; omega), (fun x e => by have := b4 x e; omega), (fun x y ex ey => by cases ex; cases ey; show g1 ≠ g2; omega), (fun x y ex ey => by cases ex; cases ey; show g1 ≠ g3; omega), (fun x y ex ey => by cases ex; cases ey; show g2 ≠ g3; omega)⟩
  have Q := O.set6 (w.heap.size + 1) hsW (.slice (some ⟨g1, 0, none⟩) sp.length k1) (.slice (some ⟨g2, 0, none⟩) he.length k2) (.slice (some ⟨g3, 0, none⟩) fa.length k3) (.int .i64 wn) (.bool ar) (.slice a5 sq.length k5)
  have GG := gr6 (gr_new G (Nat.le_refl w.heap.size) 5 (.slice a5 sq.length k5)) (show w.heap.size ≤ w.heap.size + 1 by omega) (.slice (some ⟨g1, 0, none⟩) sp.length k1) (.slice (some ⟨g2, 0, none⟩) he.length k2) (.slice (some ⟨g3, 0, none⟩) fa.length k3) (.int .i64 wn) (.bool ar) (.slice a5 sq.length k5)
  obtain ⟨⟨t0, t1, t2⟩, t3, t4, t5⟩ := six (set6 (R.set_other nz' 5 (.slice a5 sq.length k5)) (.slice (some ⟨g1, 0, none⟩) sp.length k1) (.slice (some ⟨g2, 0, none⟩) he.length k2) (.slice (some ⟨g3, 0, none⟩) fa.length k3) (.int .i64 wn) (.bool ar) (.slice a5 sq.length k5))
  exact bodyPost_ret (v := .agg #[.slice (some ⟨g1, 0, none⟩) sp.length k1, .slice (some ⟨g2, 0, none⟩) he.length k2, .slice (some ⟨g3, 0, none⟩) fa.length k3, .int .i64 wn, .bool ar, .slice a5 sq.length k5]) (by simp [results, Tryz.results39, go_sem, t0, t1, t2, t3, t4, t5]) rfl ⟨_, rfl, GG, Q.below (show w.heap.size ≤ v0.heap.size by omega), y3, z3⟩
theorem specCopySC (s : S) (p : P) (w : World) (h : Arg w s p) (ho : Ok s) : Calls Tryz.prog 39 #[sv s p] w (RetSC s w) :=
  specCopyL s.sp s.he s.fa s.wn s.ar s.sq p.a1 p.a2 p.a3 p.a4 p.c1 p.c2 p.c3 p.c4 w h.sp h.he h.fa h.sq (by rw [ho.sp3]; omega) (by rw [ho.he2]; omega) (by rw [ho.fa6]; omega) (by rw [ho.sp3]; omega) (by rw [ho.he2]; omega) (by rw [ho.fa6]; omega) (by rw [ho.sq4]; omega) (fun e => by have := ho.sq4; rw [e] at this; simp at this)
theorem specCopyS (s : S) (p : P) (w : World) (h : Arg w s p) (ho : Ok s) : Calls Tryz.prog 39 #[sv s p] w (RetS s w) :=
  (specCopySC s p w h ho).mono (fun e w' ⟨q, h1, h2, h3, _, _⟩ => ⟨q, h1, h2, h3⟩)
end Go.Proofs.YtdikhdfpcipdbaaGreatDoor.se

/- Senses of one's own while they are drawn: what is laid in them anew. -/
namespace Go.Proofs.YtdikhdfpcipdbaaGreatDoor.se
open Go.ChangeShapes Go.WideShapes Go.ChangeAt Go.RowKit
open Go.Proofs.YtdikhdfpcipdbaaGreatDoor.nums Go.Proofs.YtdikhdfpcipdbaaGreatDoor.mem
open Go.Proofs.YtdikhdfpcipdbaaGreatDoor.tab (Ret)
open Go.Proofs.YtdikhdfpcipdbaaGreatDoor.rd (R okR ageR zR rx ra ro OwnR rowR)
open Go.Proofs.YtdikhdfpcipdbaaGreatDoor.il (nth Ints Own)
set_option linter.unusedVariables false

theorem OwnS.low {b : Nat} {w w' : World} {s : S} {p : P} (h : OwnS b w s p) {g : Nat} (hg : w.grownBy w' (some g)) (hlt : g < b) : OwnS b w' s p :=
  h.chg (chg_of_gr (S := fun i => i = g) hg (fun i e => by injection e)) (fun c hc e => by have := (h.lt hc).1; omega)
theorem OwnS.lay1 {b : Nat} {w : World} {s : S} {p : P} (h : OwnS b w s p) {g cap : Nat} {l : List R} (o : OwnR w (some ⟨g, 0, none⟩) l) (hb : b ≤ g) (hn : ∀ c, blkS s p c → c ≠ g) : OwnS b w ⟨l, s.he, s.fa, s.wn, s.ar, s.sq⟩ ⟨some ⟨g, 0, none⟩, cap, p.a2, p.c2, p.a3, p.c3, p.a4, p.c4⟩ :=
  ⟨o, h.he, h.fa, h.sq, fun x e => by cases e; exact hb, h.b2, h.b3, h.b4,
    fun x y ex ey => by cases ex; exact fun e => hn y.block (Or.inr (Or.inl ⟨y, ey, rfl⟩)) e.symm,
    fun x y ex ey => by cases ex; exact fun e => hn y.block (Or.inr (Or.inr (Or.inl ⟨y, ey, rfl⟩))) e.symm, h.d23⟩
theorem OwnS.lay2 {b : Nat} {w : World} {s : S} {p : P} (h : OwnS b w s p) {g cap : Nat} {l : List R} (o : OwnR w (some ⟨g, 0, none⟩) l) (hb : b ≤ g) (hn : ∀ c, blkS s p c → c ≠ g) : OwnS b w ⟨s.sp, l, s.fa, s.wn, s.ar, s.sq⟩ ⟨p.a1, p.c1, some ⟨g, 0, none⟩, cap, p.a3, p.c3, p.a4, p.c4⟩ :=
  ⟨h.sp, o, h.fa, h.sq, h.b1, fun x e => by cases e; exact hb, h.b3, h.b4,
    fun x y ex ey => by cases ey; exact fun e => hn x.block (Or.inl ⟨x, ex, rfl⟩) e, h.d13,
    fun x y ex ey => by cases ex; exact fun e => hn y.block (Or.inr (Or.inr (Or.inl ⟨y, ey, rfl⟩))) e.symm⟩
theorem OwnS.want {b : Nat} {w : World} {s : S} {p : P} (h : OwnS b w s p) (v : Int) : OwnS b w ⟨s.sp, s.he, s.fa, v, s.ar, s.sq⟩ p := ⟨h.sp, h.he, h.fa, h.sq, h.b1, h.b2, h.b3, h.b4, h.d12, h.d13, h.d23⟩
theorem own_take {w : World} {a : Option Addr} {l : List R} (h : OwnR w a l) (n : Nat) : OwnR w a (l.take n) := by
  rcases h with ⟨h1, h2⟩ | ⟨g, cs, h1, h2, h3⟩
  · exact Or.inl ⟨h1, by rw [h2]; simp⟩
  · refine Or.inr ⟨g, cs, h1, h2, fun k hk => ?_⟩
    have hk2 : k < n ∧ k < l.length := by simp at hk; omega
    have e : (l.take n).getD k zR = l.getD k zR := by simp [List.getD, hk2.1]
    have := h3 k hk2.2
    simpa only [rx, ra, ro, e] using this
theorem OwnS.cut {b : Nat} {w : World} {s : S} {p : P} (h : OwnS b w s p) (n : Nat) : OwnS b w ⟨s.sp, s.he, s.fa.take n, s.wn, s.ar, s.sq⟩ p := ⟨h.sp, h.he, own_take h.fa n, h.sq, h.b1, h.b2, h.b3, h.b4, h.d12, h.d13, h.d23⟩
/-- A row that was drawn is not one of these blocks. -/
theorem OwnS.far {b : Nat} {w : World} {s : S} {p : P} (h : OwnS b w s p) {g : Nat} (hg : w.heap.size ≤ g) : ∀ c, blkS s p c → c ≠ g := fun c hc e => by have := (h.lt hc).2; omega
/-- How many there are of each. -/
structure Len (s : S) (p : P) : Prop where
  sp : s.sp.length = 3
  he : s.he.length = 2
  fa : s.fa.length = 6
  sq : s.sq.length = 4
  c1 : 6 ≤ p.c3
  c2 : p.c3 ≤ maxLen
/-- Senses are drawn from the cursor in block q. -/
def DrawnS (b : Option Addr) (n c : Nat) (w : World) (q : Nat) (e : Ending) (w' : World) : Prop :=
  ∃ s p, e = .returned (sv s p) ∧ w.grownBy w' (some q) ∧ OwnS w.heap.size w' s p ∧ cur.Cur b n c w' q ∧ s.sp.length = 3 ∧ s.he.length = 2 ∧ s.fa.length ≤ 6 ∧ s.sq.length = 4
end Go.Proofs.YtdikhdfpcipdbaaGreatDoor.se

/- Readings by what was heard of them, of the model. -/
namespace Go.Proofs.YtdikhdfpcipdbaaGreatDoor.se
open Go.ChangeShapes Go.WideShapes Go.ChangeAt Go.RowKit
open Go.Proofs.YtdikhdfpcipdbaaGreatDoor.nums Go.Proofs.YtdikhdfpcipdbaaGreatDoor.mem
open Go.Proofs.YtdikhdfpcipdbaaGreatDoor.tab (Ret)
open Go.Proofs.YtdikhdfpcipdbaaGreatDoor.rd (R okR okR_iff all_at ageR zR rx ra ro OwnR rowR rowR_snoc map_take_snoc infoReading RetO RetR specRight specAge)
open Go.Proofs.YtdikhdfpcipdbaaGreatDoor.il (nth Ints Own)
open Go.Proofs.YtdikhdfpcipdbaaGreatDoor.qt (region_below_tail rg_ret rg_same gr_rg)
set_option linter.unusedVariables false

set_option maxRecDepth 100000 in
set_option maxHeartbeats 4000000 in
theorem specAgedO (a : Option Addr) (cap : Nat) (l : List R) (w : World) (h : rd.Arg w a l) (hl : l.length ≤ 1048576) (ha : l.all okR = true) : Calls Tryz.prog 42 #[.slice a l.length cap] w (RetO (l.map ageR) w) := by
  obtain ⟨i0, hi, hz0, hz1, hz2⟩ := info_parts infoReading
  have g0 : w.grownBy (w.alloc (Obj.cells #[] 42)) none := World.grownBy_alloc _ _ _
  have o0 := World.ownsRow_made (base := w.heap.size) (e := 42) (size := 3) w #[] 0 (Nat.le_refl _) (Nat.zero_le _) rfl
  have HA := Lib.hid ha
  go_enter Tryz.func42, Tryz.ntmps42
  go_wp2_with fail
  go_loopw [3, 4] (fun t i wr => ∃ (k g c : Nat), k ≤ l.length ∧ i = .int .i64 k ∧ t = .slice (some ⟨g, 0, none⟩) k c ∧ w.heap.size ≤ g ∧ wr.ownsRow w.heap.size 42 3 (.slice (some ⟨g, 0, none⟩) k c) k (rowR ((l.map ageR).take k)) ∧ w.grownBy wr none) (fun _ i _ => l.length - (intOf i).toNat)
  case atStart => exact ⟨0, _, _, Nat.zero_le _, rfl, rfl, Nat.le_refl _, o0, g0⟩
  case round =>
    clear o0 g0
    obtain ⟨k, g, c, hk, rfl, rfl, hge, hown, hg⟩ := hrel
    by_cases hlt : k < l.length
    · have hA := h.kept hg
      obtain ⟨x, rfl, hb, cx, cy, cz⟩ := hA k hlt
      obtain ⟨_, q0, q1⟩ := okR_iff.1 (all_at ha hlt)
      go_wp2_with fail
      refine (specRight _ _ _ _ hA hl).mono ?_
      rintro e w1 ⟨rfl, hg1⟩
      have hg01 := gr_trans hg hg1
      have hsz := hg01.size
      have hown1 := hown.kept hg1 (Or.inr (by simp [Value.ownBlock]))
      obtain ⟨x', e', hb', cx', cy', cz'⟩ := (h.kept hg01) k hlt
      injection e' with e'
      subst e'
      clear cx cy cz hg1 hown
      go_wp2_with fail
      refine (specAge _ _ _ _ q0 q1).mono ?_
      rintro e w2 ⟨rfl, hg2⟩
      have hg02 := gr_trans hg01 hg2
      have hsz2 := hg02.size
      have hown2 := hown1.kept hg2 (Or.inr (by simp [Value.ownBlock]))
      clear cx' cy' cz' hg2 hown1 hg01
      go_wp2_with (at_builtin; refine wpList_append_lies _ rfl _ _ _ rfl w.heap.size 42 i0 _ 3 24 Tryz.underlying24 hi hz0 hz1 hz2 rfl (by omega) (.slice (some ⟨g, 0, none⟩) k c) k _ rfl (hown2.alloc _) ⟨w2.heap.size, 0, none⟩ 1 1 [.int .i64 (rx l k), .int .i64 (min 1000 (ra l k + 1)), .bool (ro l k)] rfl rfl (World.news_of_block (cs := #[.int .i64 (rx l k), .int .i64 (min 1000 (ra l k + 1)), .bool (ro l k)]) (t := 42) (fr := (0, 0)) (heap_alloc_new w2 _)) (by simp [Value.oneCell']) (by omega) (by unfold maxLen; omega) (by omega) (by simp; omega) (w2.heap.size + 1) (by simp) ?_; intro gg cap1 w3 hown3 hgrow hat hlt3)
      have hgw : w2.grownBy w3 (some g) := gr_trans (World.grownBy_alloc _ _ _) hgrow
      have hg03 := gr_past hg02 hgw hge
      go_wp2_with fail
      go_roundw
      case rel => exact ⟨k + 1, gg, cap1, by omega, by go_num, rfl, by
        rcases hat with hat | hat
        · simp [Value.ownBlock] at hat; omega
        · omega, by rw [map_take_snoc hlt, rowR_snoc]; exact hown3, hg03⟩
      case measure => simp [intOf]; omega
    · obtain rfl : k = l.length := by omega
      go_wp2_with fail
      go_ret
      have ht : (l.map ageR).take l.length = l.map ageR := by rw [List.take_of_length_le (by simp)]
      rw [ht] at hown
      exact ⟨some ⟨g, 0, none⟩, c, by simp, hg, own_of_row (base := w.heap.size) (cap := c) (by simpa using hown), fun x e => by cases e; exact hge⟩

theorem consT_of {α : Type} {n : Nat} {l : List α} (h : l.length = n + 1) : ∃ x t, l = x :: t ∧ t.length = n := by
  cases l with
  | nil => cases h
  | cons x t => exact ⟨x, t, rfl, Nat.succ.inj h⟩
theorem lit37 (tl : List Value) (h : tl.length = 37) : ∃ x0 x1 x2 x3 x4 x5 x6 x7 x8 x9 x10 x11 x12 x13 x14 x15 x16 x17 x18 x19 x20 x21 x22 x23 x24 x25 x26 x27 x28 x29 x30 x31 x32 x33 x34 x35 x36 : Value, tl = [x0, x1, x2, x3, x4, x5, x6, x7, x8, x9, x10, x11, x12, x13, x14, x15, x16, x17, x18, x19, x20, x21, x22, x23, x24, x25, x26, x27, x28, x29, x30, x31, x32, x33, x34, x35, x36] := by
  obtain ⟨x0, t0, e0, h0⟩ := consT_of h
  obtain ⟨x1, t1, e1, h1⟩ := consT_of h0
  obtain ⟨x2, t2, e2, h2⟩ := consT_of h1
  obtain ⟨x3, t3, e3, h3⟩ := consT_of h2
  obtain ⟨x4, t4, e4, h4⟩ := consT_of h3
  obtain ⟨x5, t5, e5, h5⟩ := consT_of h4
  obtain ⟨x6, t6, e6, h6⟩ := consT_of h5
  obtain ⟨x7, t7, e7, h7⟩ := consT_of h6
  obtain ⟨x8, t8, e8, h8⟩ := consT_of h7
  obtain ⟨x9, t9, e9, h9⟩ := consT_of h8
  obtain ⟨x10, t10, e10, h10⟩ := consT_of h9
  obtain ⟨x11, t11, e11, h11⟩ := consT_of h10
  obtain ⟨x12, t12, e12, h12⟩ := consT_of h11
  obtain ⟨x13, t13, e13, h13⟩ := consT_of h12
  obtain ⟨x14, t14, e14, h14⟩ := consT_of h13
  obtain ⟨x15, t15, e15, h15⟩ := consT_of h14
  obtain ⟨x16, t16, e16, h16⟩ := consT_of h15
  obtain ⟨x17, t17, e17, h17⟩ := consT_of h16
  obtain ⟨x18, t18, e18, h18⟩ := consT_of h17
  obtain ⟨x19, t19, e19, h19⟩ := consT_of h18
  obtain ⟨x20, t20, e20, h20⟩ := consT_of h19
  obtain ⟨x21, t21, e21, h21⟩ := consT_of h20
  obtain ⟨x22, t22, e22, h22⟩ := consT_of h21
  obtain ⟨x23, t23, e23, h23⟩ := consT_of h22
  obtain ⟨x24, t24, e24, h24⟩ := consT_of h23
  obtain ⟨x25, t25, e25, h25⟩ := consT_of h24
  obtain ⟨x26, t26, e26, h26⟩ := consT_of h25
  obtain ⟨x27, t27, e27, h27⟩ := consT_of h26
  obtain ⟨x28, t28, e28, h28⟩ := consT_of h27
  obtain ⟨x29, t29, e29, h29⟩ := consT_of h28
  obtain ⟨x30, t30, e30, h30⟩ := consT_of h29
  obtain ⟨x31, t31, e31, h31⟩ := consT_of h30
  obtain ⟨x32, t32, e32, h32⟩ := consT_of h31
  obtain ⟨x33, t33, e33, h33⟩ := consT_of h32
  obtain ⟨x34, t34, e34, h34⟩ := consT_of h33
  obtain ⟨x35, t35, e35, h35⟩ := consT_of h34
  obtain ⟨x36, t36, e36, h36⟩ := consT_of h35
  have e37 := List.eq_nil_of_length_eq_zero h36
  exact ⟨x0, x1, x2, x3, x4, x5, x6, x7, x8, x9, x10, x11, x12, x13, x14, x15, x16, x17, x18, x19, x20, x21, x22, x23, x24, x25, x26, x27, x28, x29, x30, x31, x32, x33, x34, x35, x36, by rw [e0, e1, e2, e3, e4, e5, e6, e7, e8, e9, e10, e11, e12, e13, e14, e15, e16, e17, e18, e19, e20, e21, e22, e23, e24, e25, e26, e27, e28, e29, e30, e31, e32, e33, e34, e35, e36, e37]⟩
/-- What each operation of the loop leaves. -/
def LeftT (vo vr va ve vf vg : Value) (k : Nat) (ro p1 p2 p3 : Value) (r : Value) (n : Int) (t1 t2 : Int) (t3 : Bool) : Nat → Value → World → Prop
  | 0, v, _ => v = vo
  | 1, v, _ => v = vr
  | 2, v, _ => v = va
  | 3, v, _ => v = .int .i64 k
  | 4, v, _ => v = p1
  | 5, v, _ => v = r
  | 6, v, _ => v = p2
  | 7, v, _ => v = vf
  | 8, v, _ => v = .int .i64 k
  | 9, v, _ => v = p3
  | 10, v, _ => v = .int .i64 n
  | 11, v, _ => v = .agg #[.int .i64 t1, .int .i64 t2, .bool t3]
  | 12, v, w => ∃ g, v = .slice (some ⟨g, 0, none⟩) 1 1 ∧ Has w g 42 #[.int .i64 t1, .int .i64 t2, .bool t3]
  | _, _, _ => False
theorem LeftT.stab {vo vr va ve vf vg : Value} {k : Nat} {ro p1 p2 p3 : Value} {r : Value} {n : Int} {t1 t2 : Int} {t3 : Bool} (j : Nat) (v : Value) (w w' : World) (h : LeftT vo vr va ve vf vg k ro p1 p2 p3 r n t1 t2 t3 j v w) (hg : w.grownBy w' none) : LeftT vo vr va ve vf vg k ro p1 p2 p3 r n t1 t2 t3 j v w' := by
  match j, h with
  | 12, h => obtain ⟨g, e, H⟩ := h; exact ⟨g, e, H.grown hg (by simp)⟩
  | 0, h => exact h
  | 1, h => exact h
  | 2, h => exact h
  | 3, h => exact h
  | 4, h => exact h
  | 5, h => exact h
  | 6, h => exact h
  | 7, h => exact h
  | 8, h => exact h
  | 9, h => exact h
  | 10, h => exact h
  | 11, h => exact h
theorem each_take_snoc {f : R → Int → R} {l : List R} {vs : List Int} {k : Nat} (h : k < l.length) : (each f l vs).take (k + 1) = (each f l vs).take k ++ [f (rx l k, ra l k, ro l k) (nth vs k)] := by
  have hk : k < (each f l vs).length := by rw [each_len]; exact h
  have e := each_at (f := f) (vs := vs) h
  rw [List.take_succ_eq_append_getElem hk]
  rw [rd.getD_lt hk] at e
  rw [e]

set_option maxRecDepth 100000 in
set_option maxHeartbeats 4000000 in
theorem takeYes (lo hi rt kd sq : Int) (a b : Option Addr) (cap cap2 : Nat) (l : List R) (vs : List Int) (w : World) (h : rd.Arg w a l) (hv : Ints w b vs) (hl : l.length ≤ 1048576) (hlen : vs.length = l.length) :
    Calls Tryz.prog 41 #[.agg #[.int .i64 lo, .int .i64 hi, .int .i64 rt], .slice a l.length cap, frm.fr kd sq b vs.length cap2, .bool true] w (RetO (each (tk lo hi rt) l vs) w) := by
  obtain ⟨i0, hi0, hz0, hz1, hz2⟩ := info_parts infoReading
  have A := ((Has.fresh w 72 #[.int .i64 lo, .int .i64 hi, .int .i64 rt]).alloc (Obj.cells #[.int .i64 kd, .int .i64 sq, .slice b vs.length cap2] 50)).alloc (Obj.cells #[] 42)
  have B := (Has.fresh (w.alloc (Obj.cells #[.int .i64 lo, .int .i64 hi, .int .i64 rt] 72)) 50 #[.int .i64 kd, .int .i64 sq, .slice b vs.length cap2]).alloc (Obj.cells #[] 42)
  have g00 := gr_alloc (gr_alloc (World.grownBy_alloc w (Obj.cells #[.int .i64 lo, .int .i64 hi, .int .i64 rt] 72) none) (Obj.cells #[.int .i64 kd, .int .i64 sq, .slice b vs.length cap2] 50)) (Obj.cells #[] 42)
  have o0 := World.ownsRow_made (base := w.heap.size + 2) (e := 42) (size := 3) ((w.alloc (Obj.cells #[.int .i64 lo, .int .i64 hi, .int .i64 rt] 72)).alloc (Obj.cells #[.int .i64 kd, .int .i64 sq, .slice b vs.length cap2] 50)) #[] 0 (by simp) (Nat.zero_le _) rfl
  simp only [World.size_alloc] at B o0
  have HL := Lib.hid hlen
  clear hlen
  go_enter Tryz.func41, Tryz.ntmps41
  go_wp2_with fail
  go_loopw [9, 10] (fun t i wr => ∃ (k g c : Nat), k ≤ l.length ∧ i = .int .i64 k ∧ t = .slice (some ⟨g, 0, none⟩) k c ∧ w.heap.size + 2 ≤ g ∧ wr.ownsRow (w.heap.size + 2) 42 3 (.slice (some ⟨g, 0, none⟩) k c) k (rowR ((each (tk lo hi rt) l vs).take k)) ∧ Has wr w.heap.size 72 #[.int .i64 lo, .int .i64 hi, .int .i64 rt] ∧ Has wr (w.heap.size + 1) 50 #[.int .i64 kd, .int .i64 sq, .slice b vs.length cap2] ∧ w.grownBy wr none) (fun _ i _ => l.length - (intOf i).toNat)
  case atStart => exact ⟨0, _, _, Nat.zero_le _, rfl, rfl, Nat.le_refl _, o0, A, B, g00⟩
  case round =>
    clear o0 g00 A B
    obtain ⟨k, g, c, hk, rfl, rfl, hge, hown, A, B, hg⟩ := hrel
    by_cases hlt : k < l.length
    · obtain ⟨x, rfl, hb, cx, cy, cz⟩ := (h.kept hg) k hlt
      obtain ⟨y, rfl, _, cv⟩ := (hv.kept hg) k (by have := HL.out; omega)
      have hkv : k < vs.length := by have := HL.out; omega
      have hT := each_take_snoc (f := tk lo hi rt) (vs := vs) hlt
      have cT : ∀ W, Calls Tryz.prog 77 #[.agg #[.int .i64 lo, .int .i64 hi, .int .i64 rt], .agg #[.int .i64 (rx l k), .int .i64 (ra l k), .bool (ro l k)], .int .i64 (nth vs k)] W (RetR (tk lo hi rt (rx l k, ra l k, ro l k) (nth vs k)) W) := fun W => sane.specTaken lo hi rt (rx l k) (ra l k) (nth vs k) (ro l k) _
      generalize tk lo hi rt (rx l k, ra l k, ro l k) (nth vs k) = T at *
      obtain ⟨t1, t2, t3⟩ := T
      obtain ⟨b0, b1, b2, _, _, _⟩ := rd.three A
      obtain ⟨d0, d1, d2, _, _, _⟩ := frm.three B
      go_wp2_with fail
      have hA := h.kept hg
      have hV := hv.kept hg
      refine iv.region_inv 13 (fun i => i + 22) (LeftT (.slice (some ⟨g, 0, none⟩) k c) (.agg #[.int .i64 lo, .int .i64 hi, .int .i64 rt]) (.slice (some x) l.length cap) undef (.slice (some y) vs.length cap2) undef k undef (.pointer (some (x.add (k * 3)))) (.pointer (some ⟨w.heap.size + 1, 2, none⟩)) (.pointer (some (y.add k))) (.agg #[.int .i64 (rx l k), .int .i64 (ra l k), .bool (ro l k)]) (nth vs k) t1 t2 t3) (by kernel_rfl) (by kernel_rfl) (by kernel_rfl) (by decide) (by kernel_rfl) (by kernel_rfl) (fun i j _ _ e => by simpa using e) (fun i hi => by simp; omega) LeftT.stab ?_ ?_
      · intro i o a W hi ho2 hgW hsz2 hdf hold hdeps
        obtain ⟨⟨tl⟩, df⟩ := a
        obtain ⟨x0, x1, x2, x3, x4, x5, x6, x7, x8, x9, x10, x11, x12, x13, x14, x15, x16, x17, x18, x19, x20, x21, x22, x23, x24, x25, x26, x27, x28, x29, x30, x31, x32, x33, x34, x35, x36, rfl⟩ := lit37 tl (by simpa using hsz2)
        have ed : df = [] := by simpa using hdf
        subst ed
        have e := hold 1 (fun j _ => by omega)
        simp at e
        subst e
        have e := hold 4 (fun j _ => by omega)
        simp at e
        subst e
        have e := hold 6 (fun j _ => by omega)
        simp at e
        subst e
        have e := hold 9 (fun j _ => by omega)
        simp at e
        subst e
        have e := hold 10 (fun j _ => by omega)
        simp at e
        subst e
        clear hold hdf
        rcases (show i = 0 ∨ i = 1 ∨ i = 2 ∨ i = 3 ∨ i = 4 ∨ i = 5 ∨ i = 6 ∨ i = 7 ∨ i = 8 ∨ i = 9 ∨ i = 10 ∨ i = 11 ∨ i = 12 by omega) with rfl | rfl | rfl | rfl | rfl | rfl | rfl | rfl | rfl | rfl | rfl | rfl | rfl
        all_goals simp at ho2
        all_goals subst ho2
        all_goals simp [Region.binds, LeftT] at hdeps
        · first | subst hdeps | (obtain ⟨rfl, rfl⟩ := hdeps) | (obtain ⟨rfl, rfl, rfl⟩ := hdeps) | skip
          go_wp2_with fail
          exact ⟨gr_refl _ _, rfl⟩
        · first | subst hdeps | (obtain ⟨rfl, rfl⟩ := hdeps) | (obtain ⟨rfl, rfl, rfl⟩ := hdeps) | skip
          obtain ⟨b0, b1, b2, _, _, _⟩ := rd.three (A.grown hgW (by simp))
          go_wp2_with fail
          exact ⟨gr_refl _ _, rfl⟩
        · first | subst hdeps | (obtain ⟨rfl, rfl⟩ := hdeps) | (obtain ⟨rfl, rfl, rfl⟩ := hdeps) | skip
          go_wp2_with fail
          exact ⟨gr_refl _ _, rfl⟩
        · first | subst hdeps | (obtain ⟨rfl, rfl⟩ := hdeps) | (obtain ⟨rfl, rfl, rfl⟩ := hdeps) | skip
          go_wp2_with fail
          exact ⟨gr_refl _ _, rfl⟩
        · first | subst hdeps | (obtain ⟨rfl, rfl⟩ := hdeps) | (obtain ⟨rfl, rfl, rfl⟩ := hdeps) | skip
          go_wp2_with fail
          exact ⟨gr_refl _ _, rfl⟩
        · first | subst hdeps | (obtain ⟨rfl, rfl⟩ := hdeps) | (obtain ⟨rfl, rfl, rfl⟩ := hdeps) | skip
          obtain ⟨x', e', _, cx, cy, cz⟩ := (hA.kept hgW) k hlt
          injection e' with e'
          subst e'
          go_wp2_with fail
          exact ⟨gr_refl _ _, rfl⟩
        · first | subst hdeps | (obtain ⟨rfl, rfl⟩ := hdeps) | (obtain ⟨rfl, rfl, rfl⟩ := hdeps) | skip
          go_wp2_with fail
          exact ⟨gr_refl _ _, rfl⟩
        · first | subst hdeps | (obtain ⟨rfl, rfl⟩ := hdeps) | (obtain ⟨rfl, rfl, rfl⟩ := hdeps) | skip
          obtain ⟨d0, d1, d2, _, _, _⟩ := frm.three (B.grown hgW (by simp))
          go_wp2_with fail
          exact ⟨gr_refl _ _, rfl⟩
        · first | subst hdeps | (obtain ⟨rfl, rfl⟩ := hdeps) | (obtain ⟨rfl, rfl, rfl⟩ := hdeps) | skip
          go_wp2_with fail
          exact ⟨gr_refl _ _, rfl⟩
        · first | subst hdeps | (obtain ⟨rfl, rfl⟩ := hdeps) | (obtain ⟨rfl, rfl, rfl⟩ := hdeps) | skip
          go_wp2_with fail
          exact ⟨gr_refl _ _, rfl⟩
        · first | subst hdeps | (obtain ⟨rfl, rfl⟩ := hdeps) | (obtain ⟨rfl, rfl, rfl⟩ := hdeps) | skip
          obtain ⟨y', e', _, cv⟩ := (hV.kept hgW) k hkv
          injection e' with e'
          subst e'
          go_wp2_with fail
          exact ⟨gr_refl _ _, rfl⟩
        · first | subst hdeps | (obtain ⟨rfl, rfl⟩ := hdeps) | (obtain ⟨rfl, rfl, rfl⟩ := hdeps) | skip
          go_wp2_with fail
          refine (cT _).mono ?_
          rintro e w1 ⟨rfl, r⟩
          go_wp2_with fail
          exact rfl
        · first | subst hdeps | (obtain ⟨rfl, rfl⟩ := hdeps) | (obtain ⟨rfl, rfl, rfl⟩ := hdeps) | skip
          go_wp2_with fail
          exact ⟨World.grownBy_alloc _ _ _, _, rfl, Has.fresh _ _ _⟩
      · intro o W hgW hsz2 hdf hold hnew
        obtain ⟨⟨tl⟩, df⟩ := o
        obtain ⟨x0, x1, x2, x3, x4, x5, x6, x7, x8, x9, x10, x11, x12, x13, x14, x15, x16, x17, x18, x19, x20, x21, x22, x23, x24, x25, x26, x27, x28, x29, x30, x31, x32, x33, x34, x35, x36, rfl⟩ := lit37 tl (by simpa using hsz2)
        have ed : df = [] := by simpa using hdf
        subst ed
        obtain ⟨v, e, rfl⟩ := hnew 0 (by omega)
        simp at e
        subst e
        obtain ⟨v, e, gn, rfl, Hn⟩ := hnew 12 (by omega)
        simp at e
        subst e
        clear hnew
        have e := hold 0 (fun j _ => by omega)
        simp at e
        subst e
        have e := hold 1 (fun j _ => by omega)
        simp at e
        subst e
        have e := hold 2 (fun j _ => by omega)
        simp at e
        subst e
        have e := hold 3 (fun j _ => by omega)
        simp at e
        subst e
        have e := hold 4 (fun j _ => by omega)
        simp at e
        subst e
        have e := hold 5 (fun j _ => by omega)
        simp at e
        subst e
        have e := hold 6 (fun j _ => by omega)
        simp at e
        subst e
        have e := hold 7 (fun j _ => by omega)
        simp at e
        subst e
        have e := hold 8 (fun j _ => by omega)
        simp at e
        subst e
        have e := hold 9 (fun j _ => by omega)
        simp at e
        subst e
        have e := hold 10 (fun j _ => by omega)
        simp at e
        subst e
        have e := hold 11 (fun j _ => by omega)
        simp at e
        subst e
        have e := hold 12 (fun j _ => by omega)
        simp at e
        subst e
        have e := hold 13 (fun j _ => by omega)
        simp at e
        subst e
        have e := hold 14 (fun j _ => by omega)
        simp at e
        subst e
        have e := hold 15 (fun j _ => by omega)
        simp at e
        subst e
        have e := hold 16 (fun j _ => by omega)
        simp at e
        subst e
        have e := hold 17 (fun j _ => by omega)
        simp at e
        subst e
        have e := hold 18 (fun j _ => by omega)
        simp at e
        subst e
        have e := hold 19 (fun j _ => by omega)
        simp at e
        subst e
        have e := hold 20 (fun j _ => by omega)
        simp at e
        subst e
        have e := hold 21 (fun j _ => by omega)
        simp at e
        subst e
        have e := hold 35 (fun j _ => by omega)
        simp at e
        subst e
        have e := hold 36 (fun j _ => by omega)
        simp at e
        subst e
        clear hold hdf hsz2
        have hown2 := hown.kept hgW (Or.inr (by simp [Value.ownBlock]))
        have lW := hgW.size
        have lB := B.lt
        simp only [List.drop_succ_cons, List.drop_zero]
        go_wp2_with (at_builtin; refine wpList_append_lies _ rfl _ _ _ rfl (w.heap.size + 2) 42 i0 _ 3 24 Tryz.underlying24 hi0 hz0 hz1 hz2 rfl (by omega) (.slice (some ⟨g, 0, none⟩) k c) k _ rfl hown2 ⟨gn, 0, none⟩ 1 1 [.int .i64 t1, .int .i64 t2, .bool t3] rfl rfl (World.news_of_block (cs := #[.int .i64 t1, .int .i64 t2, .bool t3]) (t := 42) (fr := (0, 0)) Hn) (by simp [Value.oneCell']) (by omega) (by unfold maxLen; omega) (by omega) (by omega) W.heap.size rfl ?_; intro gg cap1 w3 hown3 hgrow hat hlt3)
        have hgw : W.grownBy w3 (some g) := hgrow
        have hg03 := gr_past (gr_trans hg hgW) hgw (by omega)
        go_wp2_with fail
        go_roundw
        case rel => exact ⟨k + 1, gg, cap1, by omega, by go_num, rfl, by
          rcases hat with hat | hat
          · simp [Value.ownBlock] at hat; omega
          · omega, by rw [hT, rowR_snoc]; exact hown3, (A.grown hgW (by simp)).grown hgw (by simp; omega), (B.grown hgW (by simp)).grown hgw (by simp; omega), hg03⟩
        case measure => simp [intOf]; omega
    · obtain rfl : k = l.length := by omega
      go_wp2_with fail
      go_ret
      have ht : (each (tk lo hi rt) l vs).take l.length = each (tk lo hi rt) l vs := by rw [List.take_of_length_le (by rw [each_len]; exact Nat.le_refl _)]
      rw [ht] at hown
      exact ⟨some ⟨g, 0, none⟩, c, by rw [each_len]; rfl, hg, own_of_row (base := w.heap.size + 2) (cap := c) (by rw [each_len]; exact hown), fun x e => by cases e; show w.heap.size ≤ g; omega⟩

set_option maxRecDepth 100000 in
set_option maxHeartbeats 1000000 in
theorem takeNo (lo hi rt : Int) (a : Option Addr) (cap : Nat) (l : List R) (w : World) (h : rd.Arg w a l) (hl : l.length ≤ 1048576) (ho : l.all okR = true) :
    Calls Tryz.prog 41 #[.agg #[.int .i64 lo, .int .i64 hi, .int .i64 rt], .slice a l.length cap, frm.fr 0 0 none 0 0, .bool false] w (RetO (l.map ageR) w) := by
  have g0 := gr_alloc (World.grownBy_alloc w (Obj.cells #[.int .i64 lo, .int .i64 hi, .int .i64 rt] 72) none) (Obj.cells #[.int .i64 0, .int .i64 0, .slice none 0 0] 50)
  go_enter Tryz.func41, Tryz.ntmps41
  go_wp2_with fail
  refine (specAgedO a cap l _ (h.kept g0) hl ho).mono ?_
  rintro e w1 ⟨b, j, rfl, r, o, bb⟩
  go_wp2_with fail
  go_ret
  exact ⟨b, j, by rw [List.length_map]; rfl, gr_trans g0 r, o, fun x e => Nat.le_trans g0.size (bb x e)⟩
end Go.Proofs.YtdikhdfpcipdbaaGreatDoor.se

/- One Kind more, of the model. -/
namespace Go.Proofs.YtdikhdfpcipdbaaGreatDoor.se
open Go.ChangeShapes Go.WideShapes Go.ChangeAt Go.RowKit
open Go.Proofs.YtdikhdfpcipdbaaGreatDoor.nums Go.Proofs.YtdikhdfpcipdbaaGreatDoor.mem
open Go.Proofs.YtdikhdfpcipdbaaGreatDoor.tab (Ret)
open Go.Proofs.YtdikhdfpcipdbaaGreatDoor.rd (R okR ageR zR rx ra ro OwnR set3at)
open Go.Proofs.YtdikhdfpcipdbaaGreatDoor.il (nth Ints Own)
open Go.Proofs.YtdikhdfpcipdbaaGreatDoor.stm (Fr heard)
set_option linter.unusedVariables false

/-- Where k Kinds have been heard; what is not yet heard is as it was. -/
def uptoS (s : S) (fs : List Fr) (k : Nat) : S where
  sp := if 0 < k then part (tk 0 400 20) s.sp (hd s fs 0) else s.sp
  he := if 1 < k then part (tk 0 2000 60) s.he (hd s fs 1) else s.he
  fa := if 2 < k then part gt s.fa (hd s fs 2) else s.fa
  wn := if 3 < k then wnOf s fs else s.wn
  ar := if 3 < k then arOf s fs else s.ar
  sq := [if 0 < k then sqOf s fs 0 else nth s.sq 0, if 1 < k then sqOf s fs 1 else nth s.sq 1, if 2 < k then sqOf s fs 2 else nth s.sq 2, if 3 < k then sqOf s fs 3 else nth s.sq 3]
theorem uptoS_four (s : S) (fs : List Fr) : uptoS s fs 4 = upto s fs 4 := by simp [uptoS, upto]
theorem uptoS_zero {s : S} {fs : List Fr} (h4 : s.sq.length = 4) : uptoS s fs 0 = s := by
  have q := (four_of h4).symm
  simp [uptoS, q]
/-- Kind k + 1 is not heard. -/
def quietS (s c : S) (k : Nat) : S := match k with
  | 0 => ⟨s.sp.map ageR, c.he, c.fa, c.wn, c.ar, c.sq⟩
  | 1 => ⟨c.sp, s.he.map ageR, c.fa, c.wn, c.ar, c.sq⟩
  | 2 => ⟨c.sp, c.he, s.fa.map ageR, c.wn, c.ar, c.sq⟩
  | _ => c
theorem uptoS_skip {s : S} {fs : List Fr} {k : Nat} (hk : k < 4) (h : hd s fs k = none) : uptoS s fs (k + 1) = quietS s (uptoS s fs k) k := by
  rcases (show k = 0 ∨ k = 1 ∨ k = 2 ∨ k = 3 by omega) with rfl | rfl | rfl | rfl <;> simp [uptoS, sqOf, wnOf, arOf, h, quietS, part]
theorem uptoS_tell {s : S} {fs : List Fr} {k : Nat} {f : Fr} (hk : k < 4) (h : hd s fs k = some f) : uptoS s fs (k + 1) = withSeq (toldS s (uptoS s fs k) k f.2.2) k f.2.1 := by
  rcases (show k = 0 ∨ k = 1 ∨ k = 2 ∨ k = 3 by omega) with rfl | rfl | rfl | rfl <;> simp [uptoS, sqOf, wnOf, arOf, h, withSeq, toldS, part]
theorem len_uptoS (s : S) (fs : List Fr) (k : Nat) : (uptoS s fs k).sp.length = s.sp.length ∧ (uptoS s fs k).he.length = s.he.length ∧ (uptoS s fs k).fa.length = s.fa.length ∧ (uptoS s fs k).sq.length = 4 := by
  refine ⟨?_, ?_, ?_, rfl⟩
  · show (if 0 < k then part (tk 0 400 20) s.sp (hd s fs 0) else s.sp).length = _
    split
    · exact part_len _ _ _
    · rfl
  · show (if 1 < k then part (tk 0 2000 60) s.he (hd s fs 1) else s.he).length = _
    split
    · exact part_len _ _ _
    · rfl
  · show (if 2 < k then part gt s.fa (hd s fs 2) else s.fa).length = _
    split
    · exact part_len _ _ _
    · rfl
theorem uptoS_fa (s : S) (fs : List Fr) : (uptoS s fs 2).fa = s.fa := by simp [uptoS]
/-- The first k fans' readings are new. -/
def faK (s : S) (vs : List Int) (k : Nat) : List R := (List.range s.fa.length).map fun j => if j < k then gt (rx s.fa j, ra s.fa j, ro s.fa j) (nth vs j) else s.fa.getD j zR
theorem faK_len (s : S) (vs : List Int) (k : Nat) : (faK s vs k).length = s.fa.length := by simp [faK]
theorem faK_zero (s : S) (vs : List Int) : faK s vs 0 = s.fa := by
  apply List.ext_getElem
  · exact faK_len _ _ _
  · intro i h1 h2
    simp [faK, List.getD, h2]
theorem faK_all (s : S) (vs : List Int) : faK s vs s.fa.length = each gt s.fa vs := by
  apply List.ext_getElem
  · rw [faK_len, each_len]
  · intro i h1 h2
    have : i < s.fa.length := by rwa [faK_len] at h1
    simp [faK, each, this]
theorem faK_set {s : S} {vs : List Int} {k : Nat} (hk : k < s.fa.length) : (faK s vs k).set k (gt (rx s.fa k, ra s.fa k, ro s.fa k) (nth vs k)) = faK s vs (k + 1) := by
  apply List.ext_getElem
  · simp [faK]
  · intro i h1 h2
    have hi : i < s.fa.length := by rwa [faK_len] at h2
    rw [List.getElem_set]
    by_cases e : k = i
    · subst e; simp [faK]
    · rw [if_neg e]
      simp only [faK, List.getElem_map, List.getElem_range]
      by_cases h : i < k
      · rw [if_pos h, if_pos (by omega)]
      · rw [if_neg h, if_neg (by omega)]
theorem put_sp {z : Nat} {w w' : World} {c : S} {pc : P} {x : Option Addr} {l : List R} (O : OwnS z w c pc) (hz : z ≤ w.heap.size) (N : NewR w x l w') (j : Nat) : OwnS z w' ⟨l, c.he, c.fa, c.wn, c.ar, c.sq⟩ ⟨x, j, pc.a2, pc.c2, pc.a3, pc.c3, pc.a4, pc.c4⟩ := by
  obtain ⟨g, o, bb⟩ := N
  have K := O.kept g
  exact ⟨o, K.he, K.fa, K.sq, (fun y e => Nat.le_trans hz (bb y e)), K.b2, K.b3, K.b4, (fun y u ey eu => by have := bb y ey; have := O.he.lt eu; omega), (fun y u ey eu => by have := bb y ey; have := O.fa.lt eu; omega), K.d23⟩
theorem put_he {z : Nat} {w w' : World} {c : S} {pc : P} {x : Option Addr} {l : List R} (O : OwnS z w c pc) (hz : z ≤ w.heap.size) (N : NewR w x l w') (j : Nat) : OwnS z w' ⟨c.sp, l, c.fa, c.wn, c.ar, c.sq⟩ ⟨pc.a1, pc.c1, x, j, pc.a3, pc.c3, pc.a4, pc.c4⟩ := by
  obtain ⟨g, o, bb⟩ := N
  have K := O.kept g
  exact ⟨K.sp, o, K.fa, K.sq, K.b1, (fun y e => Nat.le_trans hz (bb y e)), K.b3, K.b4, (fun y u ey eu => by have := bb u eu; have := O.sp.lt ey; omega), K.d13, (fun y u ey eu => by have := bb y ey; have := O.fa.lt eu; omega)⟩
theorem put_fa {z : Nat} {w w' : World} {c : S} {pc : P} {x : Option Addr} {l : List R} (O : OwnS z w c pc) (hz : z ≤ w.heap.size) (N : NewR w x l w') (j : Nat) : OwnS z w' ⟨c.sp, c.he, l, c.wn, c.ar, c.sq⟩ ⟨pc.a1, pc.c1, pc.a2, pc.c2, x, j, pc.a4, pc.c4⟩ := by
  obtain ⟨g, o, bb⟩ := N
  have K := O.kept g
  exact ⟨K.sp, K.he, o, K.sq, K.b1, K.b2, (fun y e => Nat.le_trans hz (bb y e)), K.b4, K.d12, (fun y u ey eu => by have := bb u eu; have := O.sp.lt ey; omega), (fun y u ey eu => by have := bb u eu; have := O.he.lt ey; omega)⟩
theorem put_wa {z : Nat} {w : World} {c : S} {pc : P} (O : OwnS z w c pc) (wn : Int) (ar : Bool) : OwnS z w ⟨c.sp, c.he, c.fa, wn, ar, c.sq⟩ pc :=
  ⟨O.sp, O.he, O.fa, O.sq, O.b1, O.b2, O.b3, O.b4, O.d12, O.d13, O.d23⟩
/-- A field of the box is laid: the lists are as they were. -/
theorem OwnS.box1 {z : Nat} {w : World} {c : S} {p : P} (O : OwnS z w c p) {g : Nat} {cs : Array Value} (k : Has w g 27 cs) (i : Nat) (u : Value) : OwnS z (w.setCell ⟨g, i, none⟩ u) c p := O.set g i u (O.nbox k (by decide) (by decide))
/-- A fan's reading is laid. -/
theorem OwnS.fan {b : Nat} {w : World} {c : S} {p : P} (h : OwnS b w c p) {k : Nat} (hk : k < c.fa.length) (r : R) : ∃ (g : Nat) (v0 v1 v2 : Value), p.a3 = some ⟨g, 0, none⟩ ∧ g < w.heap.size ∧ b ≤ g ∧ w.cell? ⟨g, k * 3, none⟩ = some v0 ∧ w.cell? ⟨g, k * 3 + 1, none⟩ = some v1 ∧ w.cell? ⟨g, k * 3 + 2, none⟩ = some v2 ∧
    w.frozen? ⟨g, k * 3, none⟩ = false ∧ w.frozen? ⟨g, k * 3 + 1, none⟩ = false ∧ w.frozen? ⟨g, k * 3 + 2, none⟩ = false ∧ blkS c p g ∧
    OwnS b (((w.setCell ⟨g, k * 3, none⟩ (.int .i64 r.1)).setCell ⟨g, k * 3 + 1, none⟩ (.int .i64 r.2.1)).setCell ⟨g, k * 3 + 2, none⟩ (.bool r.2.2)) ⟨c.sp, c.he, c.fa.set k r, c.wn, c.ar, c.sq⟩ p := by
  rcases h.fa with ⟨_, e⟩ | ⟨g, cs, ea, hc, hj⟩
  · rw [e] at hk; simp at hk
  · have S1 := gr_set (gr_set (gr_set (gr_refl w (some g)) (k * 3) (.int .i64 r.1)) (k * 3 + 1) (.int .i64 r.2.1)) (k * 3 + 2) (.bool r.2.2)
    obtain ⟨e0, e1, e2⟩ := hj k hk
    have hsz : k * 3 + 2 < cs.size := (Array.getElem?_eq_some_iff.1 e2).1
    obtain ⟨u0, u1, u2, _, u4⟩ := set3at (A := cs) (n := k + 1) (k := k) (u := .int .i64 r.1) (v := .int .i64 r.2.1) (s := .bool r.2.2) (by omega) (by omega)
    refine ⟨g, _, _, _, ea, hc.lt, h.b3 _ ea, (hc.cell _).trans e0, (hc.cell _).trans e1, (hc.cell _).trans e2, hc.frozen _, hc.frozen _, hc.frozen _, Or.inr (Or.inr (Or.inl ⟨_, ea, rfl⟩)), h.sp.grown S1 (fun x e => by have := h.d13 x _ e ea; simpa using this), h.he.grown S1 (fun x e => by have := h.d23 x _ e ea; simpa using this), Or.inr ⟨g, _, ea, ((hc.set _ _).set _ _).set _ _, fun j hj' => ?_⟩, h.sq.grown S1 (fun x e => by
      have := OwnR.int h.fa h.sq ea
      rw [e] at this
      exact fun e2 => this e2.symm), h.b1, h.b2, h.b3, h.b4, h.d12, h.d13, h.d23⟩
    have hj2 : j < c.fa.length := by simpa using hj'
    by_cases e : j = k
    · subst e
      have q : (c.fa.set j r).getD j zR = r := by simp [List.getD, hk]
      show _ = some (Value.int .i64 ((c.fa.set j r).getD j zR).1) ∧ _ = some (Value.int .i64 ((c.fa.set j r).getD j zR).2.1) ∧ _ = some (Value.bool ((c.fa.set j r).getD j zR).2.2)
      rw [q]
      exact ⟨u0, u1, u2⟩
    · obtain ⟨y0, y1, y2⟩ := u4 j e
      obtain ⟨z0, z1, z2⟩ := hj j hj2
      have q : (c.fa.set k r).getD j zR = c.fa.getD j zR := by simp [List.getD, Ne.symm e]
      show _ = some (Value.int .i64 ((c.fa.set k r).getD j zR).1) ∧ _ = some (Value.int .i64 ((c.fa.set k r).getD j zR).2.1) ∧ _ = some (Value.bool ((c.fa.set k r).getD j zR).2.2)
      rw [q]
      exact ⟨y0.trans z0, y1.trans z1, y2.trans z2⟩
theorem takeYes_call (lo hi rt kd sq : Int) (a b : Option Addr) (cap cap2 : Nat) (l : List R) (vs : List Int) (w : World) (h : rd.Arg w a l) (hv : Ints w b vs) (hl : l.length ≤ 1048576) (hlen : vs.length = l.length) :
    Calls Tryz.prog 41 #[.agg #[.int .i64 lo, .int .i64 hi, .int .i64 rt], .slice a l.length cap, frm.fr kd sq b vs.length cap2, .bool true] w fun e w' => ∃ x k, e = .returned (.slice x l.length k) ∧ NewR w x (each (tk lo hi rt) l vs) w' := by
  refine (takeYes lo hi rt kd sq a b cap cap2 l vs w h hv hl hlen).mono ?_
  rintro e w' ⟨x, k, rfl, h1, h2, h3⟩
  exact ⟨x, k, by rw [each_len], h1, h2, h3⟩
theorem takeNo_call (lo hi rt : Int) (a : Option Addr) (cap : Nat) (l : List R) (w : World) (h : rd.Arg w a l) (hl : l.length ≤ 1048576) (ho : l.all okR = true) :
    Calls Tryz.prog 41 #[.agg #[.int .i64 lo, .int .i64 hi, .int .i64 rt], .slice a l.length cap, frm.fr 0 0 none 0 0, .bool false] w fun e w' => ∃ x k, e = .returned (.slice x l.length k) ∧ NewR w x (l.map ageR) w' := by
  refine (takeNo lo hi rt a cap l w h hl ho).mono ?_
  rintro e w' ⟨x, k, rfl, h1, h2, h3⟩
  exact ⟨x, k, by rw [List.length_map], h1, h2, h3⟩
theorem agedO_call (a : Option Addr) (cap : Nat) (l : List R) (w : World) (h : rd.Arg w a l) (hl : l.length ≤ 1048576) (ho : l.all okR = true) :
    Calls Tryz.prog 42 #[.slice a l.length cap] w fun e w' => ∃ x k, e = .returned (.slice x l.length k) ∧ NewR w x (l.map ageR) w' := by
  refine (specAgedO a cap l w h hl ho).mono ?_
  rintro e w' ⟨x, k, rfl, h1, h2, h3⟩
  exact ⟨x, k, by rw [List.length_map], h1, h2, h3⟩
end Go.Proofs.YtdikhdfpcipdbaaGreatDoor.se

