/- Senses drawn: those of some world of the model, or some of their lists anew. -/
import Derived.Test.YtdikhdfpcipdbaaGreatDoorSeOwn
import Derived.Test.YtdikhdfpcipdbaaGreatDoorSeStepS
import Derived.Test.YtdikhdfpcipdbaaGreatDoorWdr
import Derived.Deep.RegionHeld3
import Derived.Deep.DeepCutAuto
namespace Go.Proofs.YtdikhdfpcipdbaaGreatDoor.se
open Go.ChangeShapes Go.WideShapes Go.ChangeAt Go.RowKit
open Go.Proofs.YtdikhdfpcipdbaaGreatDoor.nums Go.Proofs.YtdikhdfpcipdbaaGreatDoor.mem
open Go.Proofs.YtdikhdfpcipdbaaGreatDoor.tab (Ret)
open Go.Proofs.YtdikhdfpcipdbaaGreatDoor.cur (Cur Bytes below once from_ new Cur.alloc Cur.kept Cur.lt)
open Go.Proofs.YtdikhdfpcipdbaaGreatDoor.rd (R okR ageR zR rx ra ro OwnR rowR)
open Go.Proofs.YtdikhdfpcipdbaaGreatDoor.il (nth Ints Own)
set_option linter.unusedVariables false

abbrev z6 : Array Value := #[.slice none 0 0, .slice none 0 0, .slice none 0 0, .int .i64 0, .bool false, .slice none 0 0]
/-- While they are drawn: senses lie in block Y, nothing yet in the answer's. -/
def Half (b : Option Addr) (n c : Nat) (w : World) (q Y : Nat) (wx : World) : Prop :=
  ∃ s p, Has wx Y 27 (cs6 s p) ∧ Has wx w.heap.size 27 z6 ∧ w.grownBy wx (some q) ∧ Cur b n c wx q ∧ OwnS w.heap.size wx s p ∧ Len s p
/-- The same, the fans may be cut. -/
def Whole (b : Option Addr) (n c : Nat) (w : World) (q Y : Nat) (wx : World) : Prop :=
  ∃ s p, Has wx Y 27 (cs6 s p) ∧ Has wx w.heap.size 27 z6 ∧ w.grownBy wx (some q) ∧ Cur b n c wx q ∧ OwnS w.heap.size wx s p ∧ s.sp.length = 3 ∧ s.he.length = 2 ∧ s.fa.length ≤ 6 ∧ s.sq.length = 4
theorem Half.whole {b : Option Addr} {n c q Y : Nat} {w wx : World} (h : Half b n c w q Y wx) : Whole b n c w q Y wx := by
  obtain ⟨s, p, h1, h2, h3, h4, h5, L⟩ := h
  exact ⟨s, p, h1, h2, h3, h4, h5, L.sp, L.he, Nat.le_of_eq L.fa, L.sq⟩
theorem Half.cur {b : Option Addr} {n c q Y : Nat} {w wx : World} (h : Half b n c w q Y wx) : Cur b n c wx q := by
  obtain ⟨s, p, _, _, _, h4, _⟩ := h
  exact h4
theorem Half.draw {b : Option Addr} {n c q Y : Nat} {w wx wy : World} (h : Half b n c w q Y wx) (hq : q < w.heap.size) (hY : w.heap.size < Y) (g : wx.grownBy wy (some q)) (hc : Cur b n c wy q) : Half b n c w q Y wy := by
  obtain ⟨s, p, h1, h2, h3, h4, h5, L⟩ := h
  exact ⟨s, p, h1.grown g (fun e => by injection e with e; omega), h2.grown g (fun e => by injection e with e; omega), gr_trans h3 g, hc, h5.low g hq, L⟩
theorem cur_set {b : Option Addr} {n c q r : Nat} {w : World} (h : Cur b n c w q) (hr : q < r) (i : Nat) (u : Value) : Cur b n c (w.setCell ⟨r, i, none⟩ u) q :=
  h.kept (row := some r) (gr_set (gr_refl _ _) _ _) (fun r' e => by injection e with e; omega)

set_option maxRecDepth 100000 in
set_option maxHeartbeats 4000000 in
theorem drawSenses (b : Option Addr) (n c q : Nat) (w : World) (hn : n ≤ 4096) (h : Cur b n c w q) : Calls Tryz.prog 21 #[.pointer (some ⟨q, 0, none⟩)] w (DrawnS b n c w q) := by
  have hq := h.lt
  have R := Has.fresh w 27 z6
  have G : w.grownBy (w.alloc (Obj.cells z6 27)) (some q) := World.grownBy_alloc _ _ _
  have h0 := h.alloc (Obj.cells z6 27)
  go_enter Tryz.func21, Tryz.ntmps21
  go_wp2_with fail
  have hs0 : w.heap.size < (w.alloc (Obj.cells z6 27)).heap.size := by simp
  generalize w.alloc (Obj.cells z6 27) = v0 at *
  refine (wd.drawWorld b n c q _ hn h0).mono ?_
  rintro e v1 ⟨x, p0, rfl, g, O, okx, h1⟩
  have hv01 := g.size
  replace R := R.grown g (by simp; omega)
  replace G := gr_trans G g
  clear g h0
  go_upto_region 2 with (refine wd.st_row rfl _ _ rfl rfl v1.heap.size x p0 _ rfl rfl (Has.fresh v1 92 _) rfl ?_; intro v2 c2 K5)
  have ga := World.grownBy_alloc v1 (Obj.cells wd.z23 92) none
  replace O := (O.kept ga).far (Has.fresh v1 92 wd.z23) (by decide) (by decide) (by decide) c2
  have G1 := gr_past ga c2 (Nat.le_refl _)
  replace G := gr_trans G (gr_none G1 _)
  replace R := R.grown G1 (by simp)
  have h2 := h1.kept (row := none) G1 (fun r e => by cases e)
  have hv12 := G1.size
  clear c2 G1 ga h1
  have A := O.se.arg
  have okS := okx.br.se
  generalize v1.heap.size = zo at *
  have m5 := K5.cell 5
  have m6 := K5.cell 6
  have m7 := K5.cell 7
  have m8 := K5.cell 8
  have m9 := K5.cell 9
  have m10 := K5.cell 10
  replace m5 : v2.cell? ⟨zo, 5, none⟩ = some (.slice p0.se.a1 x.br.se.sp.length p0.se.c1) := m5
  replace m6 : v2.cell? ⟨zo, 6, none⟩ = some (.slice p0.se.a2 x.br.se.he.length p0.se.c2) := m6
  replace m7 : v2.cell? ⟨zo, 7, none⟩ = some (.slice p0.se.a3 x.br.se.fa.length p0.se.c3) := m7
  replace m8 : v2.cell? ⟨zo, 8, none⟩ = some (.int .i64 x.br.se.wn) := m8
  replace m9 : v2.cell? ⟨zo, 9, none⟩ = some (.bool x.br.se.ar) := m9
  replace m10 : v2.cell? ⟨zo, 10, none⟩ = some (.slice p0.se.a4 x.br.se.sq.length p0.se.c4) := m10
  clear K5 O okx
  generalize x.br.se = s0 at *
  generalize p0.se = ps at *
  go_wp2_with fail
  refine (specCopySC s0 ps _ A okS).mono ?_
  rintro e v3 ⟨p, rfl, g3, O3, k1, k2⟩
  have hv23 := g3.size
  have Y0 := R.lt
  replace R := R.grown g3 (by simp)
  replace G := gr_trans G (gr_none g3 _)
  have h3 := h2.kept (row := none) g3 (fun r e => by cases e)
  have L : Len s0 p := ⟨okS.sp3, okS.he2, okS.fa6, okS.sq4, by have := okS.fa6; omega, k2⟩
  have hY : w.heap.size < v3.heap.size := by omega
  have ga := World.grownBy_alloc v3 (Obj.cells (cs6 s0 p) 27) none
  have H : Half b n c w q v3.heap.size (v3.alloc (Obj.cells (cs6 s0 p) 27)) :=
    ⟨s0, p, Has.fresh _ _ _, R.alloc _, gr_trans G (gr_none ga _), h3.alloc _, (O3.below (by omega)).kept ga, L⟩
  clear m5 m6 m7 m8 m9 m10 A g3 O3 k1 k2 L ga R G h2 h3 okS
  go_upto_region 3 with fail
  generalize v3.alloc (Obj.cells #[.slice p.a1 s0.sp.length p.c1, .slice p.a2 s0.he.length p.c2, .slice p.a3 s0.fa.length p.c3, .int .i64 s0.wn, .bool s0.ar, .slice p.a4 s0.sq.length p.c4] 27) = v4 at *
  generalize v3.heap.size = Y at *
  go_wp2_with fail
  refine (once b n c q _ 3 hn H.cur (by omega)).mono ?_
  rintro e v5 ⟨y, rfl, g5, h5⟩
  replace H := H.draw hq hY g5 h5
  clear g5 h5
  go_upto_if 12 with fail
  go_cut [] (fun wx => Half b n c w q Y wx)
  case first =>
    cases y
    · go_wp2_with fail
      go_meet
      exact H
    · obtain ⟨s, p, K, R, G, h5, O, L⟩ := H
      go_wp2_with fail
      refine (rd.drawList b n c q 3 _ hn (by omega) h5).mono ?_
      rintro e v6 ⟨g, cap, l, rfl, hl, _, hge, g6, h6, row⟩
      have HL := Lib.hid hl
      clear hl
      have hG5 := G.size
      have O6 := ((O.low g6 hq).lay1 (cap := cap) (own_of_row row) (by omega) (O.far hge)).box1 (K.grown g6 (fun e => by injection e with e; omega)) 0 (.slice (some ⟨g, 0, none⟩) l.length cap)
      replace K := K.grown g6 (fun e => by injection e with e; omega)
      replace R := R.grown g6 (fun e => by injection e with e; omega)
      replace G := gr_trans G g6
      obtain ⟨⟨c0, c1, c2⟩, c3, c4, c5⟩ := six K
      obtain ⟨⟨f0, f1, f2⟩, f3, f4, f5⟩ := free6 K
      go_upto_region 5 with fail
      have K6 : Has (v6.setCell ⟨Y, 0, none⟩ (.slice (some ⟨g, 0, none⟩) l.length cap)) Y 27 (cs6 ⟨l, s.he, s.fa, s.wn, s.ar, s.sq⟩ ⟨some ⟨g, 0, none⟩, cap, p.a2, p.c2, p.a3, p.c3, p.a4, p.c4⟩) := K.put 0 _ rfl
      have H6 : Half b n c w q Y (v6.setCell ⟨Y, 0, none⟩ (.slice (some ⟨g, 0, none⟩) l.length cap)) := ⟨_, _, K6, R.set_other (by omega) _ _, gr_new G (by omega) _ _, cur_set h6 (by omega) _ _, O6, ⟨HL.out, L.he, L.fa, L.sq, L.c1, L.c2⟩⟩
      clear K6 O6 K R G h5 h6 O L g6 row c0 c1 c2 c3 c4 c5 f0 f1 f2 f3 f4 f5
      generalize v6.setCell ⟨Y, 0, none⟩ (.slice (some ⟨g, 0, none⟩) l.length cap) = v7 at *
      obtain ⟨s, p, K, R, G, h5, O, L⟩ := H6
      go_wp2_with fail
      refine (rd.drawList b n c q 2 _ hn (by omega) h5).mono ?_
      rintro e v8 ⟨g', cap', l', rfl, hl', _, hge', g8, h8, row'⟩
      have HL' := Lib.hid hl'
      clear hl'
      have hG7 := G.size
      have O8 := ((O.low g8 hq).lay2 (cap := cap') (own_of_row row') (by omega) (O.far hge')).box1 (K.grown g8 (fun e => by injection e with e; omega)) 1 (.slice (some ⟨g', 0, none⟩) l'.length cap')
      replace K := K.grown g8 (fun e => by injection e with e; omega)
      replace R := R.grown g8 (fun e => by injection e with e; omega)
      replace G := gr_trans G g8
      obtain ⟨⟨c0, c1, c2⟩, c3, c4, c5⟩ := six K
      obtain ⟨⟨f0, f1, f2⟩, f3, f4, f5⟩ := free6 K
      go_wp2_with fail
      go_meet
      exact ⟨_, _, (K.put 1 _ rfl : Has _ Y 27 (cs6 ⟨s.sp, l', s.fa, s.wn, s.ar, s.sq⟩ ⟨p.a1, p.c1, some ⟨g', 0, none⟩, cap', p.a3, p.c3, p.a4, p.c4⟩)), R.set_other (by omega) _ _, gr_new G (by omega) _ _, cur_set h8 (by omega) _ _, O8, ⟨L.sp, HL'.out, L.fa, L.sq, L.c1, L.c2⟩⟩
  case rest =>
    clear H
    have H := hcut
    clear hcut
    go_wp2_with fail
    refine (once b n c q _ 10 hn H.cur (by omega)).mono ?_
    rintro e v9 ⟨y2, rfl, g9, h9⟩
    replace H := H.draw hq hY g9 h9
    clear g9 h9
    go_upto_if 20 with fail
    go_cut [] (fun wx => Whole b n c w q Y wx)
    case first =>
      cases y2
      · go_wp2_with fail
        go_meet
        exact H.whole
      · go_wp2_with fail
        refine (below b n c q _ 3 hn H.cur (by omega)).mono ?_
        rintro e va ⟨k, ⟨k0, k1⟩, rfl, ga, ha⟩
        replace H := H.draw hq hY ga ha
        clear ga ha
        obtain rfl | rfl | rfl : k = 0 ∨ k = 1 ∨ k = 2 := by omega
        · go_wp2_with fail
          refine (from_ b n c q _ _ _ hn H.cur (by omega) (by omega) (by omega) (by omega)).mono ?_
          rintro e vb ⟨z, _, rfl, gb, hb⟩
          obtain ⟨s, p, K, R, G, hb, O, L⟩ := H.draw hq hY gb hb
          have hGb := G.size
          obtain ⟨⟨c0, c1, c2⟩, c3, c4, c5⟩ := six K
          obtain ⟨⟨f0, f1, f2⟩, f3, f4, f5⟩ := free6 K
          clear gb H
          go_wp2_with fail
          go_meet
          exact ⟨_, p, (K.put 3 _ rfl : Has _ Y 27 (cs6 ⟨s.sp, s.he, s.fa, z, s.ar, s.sq⟩ p)), R.set_other (by omega) _ _, gr_new G (by omega) _ _, cur_set hb (by omega) _ _, (O.want z).box1 K _ _, L.sp, L.he, Nat.le_of_eq L.fa, L.sq⟩
        · go_upto_region 11 with fail
          obtain ⟨s, p, K, R, G, hb, O, L⟩ := H
          obtain ⟨gs, os, ea, _⟩ := O.seq (k := 0) (by rw [L.sq]; omega) 0
          obtain ⟨a1, j1, a2, j2, a3, j3, a4, j4⟩ := p
          dsimp only at ea
          subst ea
          have K0 : Has va.drew Y 27 (cs6 s ⟨a1, j1, a2, j2, a3, j3, some ⟨gs, os, none⟩, j4⟩) := K
          have O0 : OwnS w.heap.size va.drew s ⟨a1, j1, a2, j2, a3, j3, some ⟨gs, os, none⟩, j4⟩ := O.kept (gr_drewN (gr_refl _ _) 1)
          have R0 : Has va.drew w.heap.size 27 z6 := R
          have G0 : w.grownBy va.drew (some q) := gr_drewN G 1
          have hd : Cur b n c va.drew q := hb.kept (row := none) (gr_drewN (gr_refl _ _) 1) (by simp)
          obtain ⟨⟨c0, c1, c2⟩, c3, c4, c5⟩ := six K
          have hl4 : (0 : Int) < (s.sq.length : Int) := by have := L.sq; omega
          have hl4n : 0 < s.sq.length := by have := L.sq; omega
          go_region_held3 (fun W => W.cell? ⟨Y, 5, none⟩ = some (.slice (some ⟨gs, os, none⟩) s.sq.length j4)) (first | with_reducible exact (six K0).2.2.2 | with_reducible exact (six K1).2.2.2 | with_reducible exact (six K2).2.2.2 | fail) (first | (go_at_call 31; refine (from_ b n c q _ _ _ hn hd (by omega) (by omega) (by omega) (by omega)).mono ?_; rintro e vb ⟨z, _, rfl, gb, hb2⟩; have K1 := K0.grown gb (fun e => by injection e with e; omega); have O1 := O0.low gb hq; obtain ⟨gs', os', ea', lt1, lt2, cc, cf, bk, O2⟩ := O1.seq (k := 0) (by rw [L.sq]; omega) z; cases ea'; simp only [Nat.add_zero] at cc cf O2; have R1 := R0.grown gb (fun e => by injection e with e; omega); have hXg := O1.nbox R1 (by decide) (by decide) gs bk; have hYg := O1.nbox K1 (by decide) (by decide) gs bk; have K2 := K1.set_other (Ne.symm hYg) os (.int .i64 z)) | fail)
          have K3 : Has (vb.setCell ⟨gs, os, none⟩ (.int .i64 z)) Y 27 (cs6 (withSeq s 0 z) ⟨a1, j1, a2, j2, a3, j3, some ⟨gs, os, none⟩, j4⟩) := by
            rw [show cs6 (withSeq s 0 z) ⟨a1, j1, a2, j2, a3, j3, some ⟨gs, os, none⟩, j4⟩ = cs6 s ⟨a1, j1, a2, j2, a3, j3, some ⟨gs, os, none⟩, j4⟩ by simp [withSeq, cs6]]
            exact K2
          go_wp2_with fail
          go_meet
          exact ⟨_, _, K3, R1.set_other (Ne.symm hXg) _ _, gr_new (gr_trans G0 gb) lt2 _ _, cur_set hb2 (by omega) _ _, O2, L.sp, L.he, Nat.le_of_eq L.fa, by simp [withSeq, L.sq]⟩
        · obtain ⟨s, p, K, R, G, hb, O, L⟩ := H
          obtain ⟨gs, _, _, _, ea, _⟩ := O.fan (k := 0) (by rw [L.fa]; omega) zR
          have h5 : (5 : Int) ≤ (p.c3 : Int) := by have := L.c1; omega
          obtain ⟨a1, j1, a2, j2, a3, j3, a4, j4⟩ := p
          dsimp only at ea h5
          subst ea
          obtain ⟨⟨c0, c1, c2⟩, c3, c4, c5⟩ := six K
          obtain ⟨⟨f0, f1, f2⟩, f3, f4, f5⟩ := free6 K
          have e5 : (s.fa.take 5).length = 5 := by simp [L.fa]
          go_wp2_with fail
          go_meet
          exact ⟨_, ⟨a1, j1, a2, j2, some ⟨gs, 0, none⟩, j3, a4, j4⟩, (K.put 2 _ (by simp only [cs6, e5]; rfl) : Has _ Y 27 (cs6 ⟨s.sp, s.he, s.fa.take 5, s.wn, s.ar, s.sq⟩ ⟨a1, j1, a2, j2, some ⟨gs, 0, none⟩, j3, a4, j4⟩)), R.set_other (by omega) _ _, gr_new G (by omega) _ _, cur_set hb (by omega) _ _, (O.cut 5).box1 K _ _, L.sp, L.he, by rw [e5]; omega, L.sq⟩
    case rest =>
      clear H
      obtain ⟨s, p, K, R, G, h9, O, l1, l2, l3, l4⟩ := hcut
      have HL := Lib.hid (And.intro l1 (And.intro l2 (And.intro l3 l4)))
      clear l1 l2 l3 l4
      obtain ⟨⟨c0, c1, c2⟩, c3, c4, c5⟩ := six K
      obtain ⟨⟨r0, r1, r2⟩, r3, r4, r5⟩ := six R
      obtain ⟨⟨f0, f1, f2⟩, f3, f4, f5⟩ := free6 R
      go_wp2_with fail
      obtain ⟨⟨t0, t1, t2⟩, t3, t4, t5⟩ := six (set6 R (.slice p.a1 s.sp.length p.c1) (.slice p.a2 s.he.length p.c2) (.slice p.a3 s.fa.length p.c3) (.int .i64 s.wn) (.bool s.ar) (.slice p.a4 s.sq.length p.c4))
      exact bodyPost_ret (v := sv s p) (by simp [results, Tryz.results21, go_sem, t0, t1, t2, t3, t4, t5]) rfl
        ⟨s, p, rfl, gr_new (gr_new (gr_new (gr_new (gr_new (gr_new G (Nat.le_refl _) _ _) (Nat.le_refl _) _ _) (Nat.le_refl _) _ _) (Nat.le_refl _) _ _) (Nat.le_refl _) _ _) (Nat.le_refl _) _ _, O.boxed R _ _ _ _ _ _, cur_set (cur_set (cur_set (cur_set (cur_set (cur_set h9 hq _ _) hq _ _) hq _ _) hq _ _) hq _ _) hq _ _, HL.out.1, HL.out.2.1, HL.out.2.2.1, HL.out.2.2.2⟩
end Go.Proofs.YtdikhdfpcipdbaaGreatDoor.se
